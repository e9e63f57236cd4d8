import Derived.Test.YtfidfeilljlbiaaGreatFrg08
import Derived.Test.YtfidfeilljlbiaaGreatFrg02
import Derived.Test.YtfidfeilljlbiaaGreatFrg09
import Derived.Test.YtfidfeilljlbiaaGreatFrg13
import Derived.Test.YtfidfeilljlbiaaGreatFrg10
import Derived.Test.YtfidfeilljlbiaaGreatFrg12
set_option linter.unusedVariables false
set_option linter.unusedSimpArgs false
set_option maxRecDepth 100000
set_option maxHeartbeats 40000000
namespace Go.Proofs.YtfidfeilljlbiaaGreat
open Go.ChangeShapes Go.WideShapes Go.ChangeAt Go.RowKit
def sRowR (ts:List ByteArray):List Value:=ts.map Value.string
theorem sRowR_len (ts:List ByteArray):(sRowR ts).length=ts.length:=by simp [sRowR]
theorem own_sseg {w:World}{B:Nat}{v:Value}{ts:List ByteArray}(h:w.ownsRow B 9 1 v ts.length (sRowR ts)):∃a c,v=.slice a ts.length c/\ SSeg w a ts/\ ts.length<=c/\ c<=9223372036854775807:=by
 rcases h.2 with ⟨rfl,h0⟩|⟨g,Hb,Hc,rfl,Ha,hb,h1,h2,h3,h4⟩
 ·exact⟨none,0,by rw [h0],.inl h0,by omega,by omega⟩
 ·refine⟨_,Hb,rfl,.inr ⟨g,0,rfl,(Array.getElem?_eq_some_iff.1 hb).1,fun i hi=> ?_⟩,h1,by unfold maxLen at h2;omega⟩;have q:w.cell? ⟨g,i,none⟩=(sRowR ts)[i]? :=by
   rw [<- h4,Nat.mul_one,List.getElem?_take_of_lt hi];simp [World.cell?,hb]
  rw [Nat.zero_add,q];simp [sRowR,gS,List.getD,hi]
theorem own_atS {w w':World}{B e size n:Nat}{v:Value}{xs:List Value}(h:w.ownsRow B e size v n xs)(hk:∀g,v.ownBlock=some g ->w'.heap[g]? =w.heap[g]?):w'.ownsRow B e size v n xs:=by
 obtain⟨q1,q2⟩:=h;refine⟨q1,?_⟩;rcases q2 with q2|⟨g,Ha,Hb,e,Hc,hb,r⟩
 ·exact .inl q2
 ·subst e;exact .inr ⟨g,Ha,Hb,rfl,Hc,(hk g rfl).trans hb,r⟩
theorem own_lowS {w w':World}{B e size n:Nat}{v:Value}{xs:List Value}(h:w.ownsRow B e size v n xs)(hb:Below w.heap.size w w'):w'.ownsRow B e size v n xs:=own_atS h fun g hg=>hb.block g (h.lt g hg).2
theorem own_weakR {w:World}{B B' e size n:Nat}{v:Value}{xs:List Value}(h:w.ownsRow B e size v n xs)(hB:B'<=B):w.ownsRow B' e size v n xs:=by
 obtain⟨q1,q2⟩:=h;refine⟨q1,?_⟩;rcases q2 with q2|⟨g,Ha,Hb,e,Hc,r⟩
 ·exact .inl q2
 ·exact .inr ⟨g,Ha,Hb,e,Nat.le_trans hB Hc,r⟩
theorem appSR (base:Nat)(w:World)(v:Value)(xs ns:List ByteArray)(a:Addr)(c:Nat)(ho:w.ownsRow base 9 1 v xs.length (sRowR xs))(hn:∀i,i<ns.length ->w.cell? (a.add i)=some (.string (gS ns i)))(hm:xs.length+ns.length<=4194304)(hb:base<=w.heap.size):
  ∃v' w',(Builtin.append_ #[29,29] 29 #[v,.slice (some a) ns.length c]).run Tryz.prog w=.ok v' w'/\ w'.ownsRow base 9 1 v' (xs++ns).length (sRowR (xs++ns))/\ w.grownBy w' v.ownBlock/\ Below base w w'/\ (v≠.slice none 0 0 ->v'≠.slice none 0 0):=by
 obtain⟨i0,hi,Ha,Hb,Hc⟩:=info_parts infoStr;obtain⟨v',w',h1,h2,h3,h4⟩:=run_append_own (P:=Tryz.prog) w base 29 29 9 i0 (.string ByteArray.empty) 1 16 Tryz.underlying29 hi Ha Hb Hc rfl (by decide) v xs.length (sRowR xs) ho a ns.length c (sRowR ns) (by rw [sRowR_len];omega) (fun j u hu=>by
  have hj:j<ns.length:=by
   by_cases e:j<ns.length
   ·exact e
   ·rw [List.getElem?_eq_none (by rw [sRowR_len];omega)] at hu;cases hu
  rw [hn j hj,<- hu];simp [sRowR,gS,List.getD,hj]) (fun u hu=>by
   obtain⟨s,_,rfl⟩:=List.mem_map.1 hu;rfl) (by unfold maxLen;omega) (by omega) hb
 refine⟨v',w',h1,?_,h3,?_,fun hv e=>hv (h4.1 e).1⟩
 ·rw [List.length_append];simpa [sRowR] using h2
 ·exact(Below.refl base w).grown h3 hb (fun k hk=>(ho.lt k hk).1)
theorem wp_app {P:Program}{o:Oper}{a:Act}{w w':World}{K:Act ->World ->Prop}{Q:Exit ->Act ->World ->Prop}(s x:Operand)(t:TypeId)(ho:o.op=.call {callee:=.builtin .append,args:=#[s,x],argTypes:=#[t,t]}){v u v':Value}{t':TypeId}(hr:(Builtin.append_ #[t,t] t' #[v,u]).run P w=.ok v' w')(hs:a.eval s=v)(hx:a.eval x=u)(ht:o.type=t')(h:K (a.put o.dst v') w'):Oper.wp P o a w K Q:=by
 subst ht;unfold Oper.wp execOp;simp only [ho,resolve,invoke,builtin,Sem.run_bind,Sem.run_pure,Result.andThen_ok,List.map_toArray,List.map_cons,List.map_nil,hs,hx,hr];exact h
theorem wpList_appS {P:Program}{ops:Array Oper}{rest:List Oper}{o:Oper}{a:Act}{w w':World}{Q:Exit ->Act ->World ->Prop}(hgd:o.guard=none)(s x:Operand)(t:TypeId)(ho:o.op=.call {callee:=.builtin .append,args:=#[s,x],argTypes:=#[t,t]}){v u v':Value}{t':TypeId}(hr:(Builtin.append_ #[t,t] t' #[v,u]).run P w=.ok v' w')(hs:a.eval s=v)(hx:a.eval x=u)(ht:o.type=t')(h:wpList P ops Q rest (a.put o.dst v') w'):wpList P ops Q (o::rest) a w:=by
 refine wpList_plain hgd fun K hK=> ?_;exact wp_app s x t ho hr hs hx ht (hK _ _ h)
theorem ext_le (s:ByteArray)(a b:Nat){c:Nat}(h:b<=c):(s.extract a b).size<=c:=by
 rw [ByteArray.size_extract];exact Nat.le_trans (Nat.sub_le _ _) (Nat.le_trans (Nat.min_le_left _ _) h)
theorem valueJ (f:Nat ->Int)(n x:Nat):∃v:ByteArray,v.size<=201/\∀(B rb:Nat) (w:World),B<=w.heap.size ->RdJ w B rb f n x ->
  Calls Tryz.prog 19 #[.pointer (some ⟨rb,0,none⟩)] w fun e w'=>e=.returned (.string v)/\ RdJ w' B rb f n (rx n x)/\ w.grownBy w' (some rb):=by
 obtain⟨k,hk⟩:∃k,rk f n x=k:=⟨_,rfl⟩;by_cases h1:k=255
 ·refine⟨txJ (rpt ⟨#[118]⟩ 201),by rw [txJ_size,rpt_len];decide,fun B rb w hB h=> ?_⟩;have HN:=hid (rdNextJ B rb f n x w h);rw [hk] at HN;have d1:((k:Int)==255)=true:=by simp;omega
  clear h hk;go_enter Tryz.func19,Tryz.ntmps19;go_wp2_with fail;refine HN.out.mono ?_;rintro e w1 ⟨rfl,r1,g1⟩;have HC:=hid (rdRepeatJ ⟨#[118]⟩ 201 w1 (by decide) (by omega));go_wp2_with fail;refine HC.out.mono ?_;rintro e w2 ⟨rfl,b2⟩;go_wp2_with fail;go_ret;exact⟨rfl,r1.below (b2.mono (by have:=g1.size;omega)),grown_belowJ g1 b2⟩
 ·by_cases h2:250<=k
  ·refine⟨txJ (rpt ⟨#[118]⟩ 200),by rw [txJ_size,rpt_len];decide,fun B rb w hB h=> ?_⟩;have HN:=hid (rdNextJ B rb f n x w h);rw [hk] at HN;have d1:((k:Int)==255)=false:=by simp;omega
   have d2:(250:Int)<=(k:Int):=by omega
   clear h hk;go_enter Tryz.func19,Tryz.ntmps19;go_wp2_with fail;refine HN.out.mono ?_;rintro e w1 ⟨rfl,r1,g1⟩;have HC:=hid (rdRepeatJ ⟨#[118]⟩ 200 w1 (by decide) (by omega));go_wp2_with fail;refine HC.out.mono ?_;rintro e w2 ⟨rfl,b2⟩;go_wp2_with fail;go_ret;exact⟨rfl,r1.below (b2.mono (by have:=g1.size;omega)),grown_belowJ g1 b2⟩
  ·obtain⟨r,hr⟩:∃r:Nat,k%4=r:=⟨_,rfl⟩;refine⟨(⟨#[119,120,121,122]⟩:ByteArray).extract r 4,ext_le _ _ _ (by omega),fun B rb w hB h=> ?_⟩;have HN:=hid (rdNextJ B rb f n x w h);rw [hk] at HN;have d1:((k:Int)==255)=false:=by simp;omega
   have d2:¬(250:Int)<=(k:Int):=by omega
   have d3:(k:Int)%4=(r:Int):=by omega
   have d4:r<4:=by omega
   clear h hk hr;go_enter Tryz.func19,Tryz.ntmps19;go_wp2_with fail;refine HN.out.mono ?_;rintro e w1 ⟨rfl,r1,g1⟩;go_wp2_with fail;go_ret;exact⟨rfl,r1,g1⟩
def PR (w:World)(B:Nat)(v:Value)(ps:List ByteArray):Prop:=w.ownsRow B 9 1 v ps.length (sRowR ps)
structure PtN (w:World)(lo:Nat)(pa:Option Addr)(pc:Nat)(p:List ByteArray):Prop where
 cap:p.length<=pc/\ pc<=9223372036854775807
 seg:∀w':World,w.heap.size<=w'.heap.size ->(∀q,lo<=q ->q<w.heap.size ->w'.heap[q]? =w.heap[q]?) ->SSeg w' pa p
theorem PtN.move {w w1:World}{lo lo':Nat}{pa:Option Addr}{pc:Nat}{p:List ByteArray}(h:PtN w lo pa pc p)(hl:lo'<=lo)(hs:w.heap.size<=w1.heap.size)(hq:∀q,lo<=q ->q<w.heap.size ->w1.heap[q]? =w.heap[q]?):PtN w1 lo' pa pc p:=
 ⟨h.cap,fun w' h1 h2=>h.seg w' (Nat.le_trans hs h1) (fun q h3 h4=>(h2 q (Nat.le_trans hl h3) (Nat.lt_of_lt_of_le h4 hs)).trans (hq q h3 h4))⟩
theorem PtN.below {w w1:World}{lo:Nat}{pa:Option Addr}{pc:Nat}{p:List ByteArray}(h:PtN w lo pa pc p)(hb:Below w.heap.size w w1):PtN w1 lo pa pc p:=h.move zL hb.size (fun q _ h2=>hb.block q h2)
theorem PtN.at {w:World}{lo:Nat}{pa:Option Addr}{pc:Nat}{p:List ByteArray}(h:PtN w lo pa pc p):SSeg w pa p:=h.seg w zL (fun _ _ _=>rfl)
theorem PR.ptn {w:World}{B:Nat}{v:Value}{ps:List ByteArray}(h:PR w B v ps){lo:Nat}(hl:lo<=B):∃pa pc,v=.slice pa ps.length pc/\ PtN w lo pa pc ps:=by
 obtain⟨pa,pc,e,s,c⟩:=own_sseg h;refine⟨pa,pc,e,c,fun w' h1 h2=> ?_⟩;obtain⟨Ha,Hb,e',s',_⟩:=own_sseg (own_atS h (fun g hg=>h2 g (Nat.le_trans hl (h.lt g hg).1) (h.lt g hg).2));rw [e] at e';injection e' with e1 e2 e3;rw [e1];exact s'
theorem strApp1 (B:Nat)(w:World)(v:Value)(ps:List ByteArray)(s:ByteArray)(h:PR w B v ps)(hB:B<=w.heap.size)(hl:ps.length<=100):
  ∃v' w',(Builtin.append_ #[29,29] 29 #[v,.slice (some ⟨w.heap.size,0,none⟩) 1 1]).run Tryz.prog (w.alloc (.cells #[.string s] 9))=.ok v' w'/\ PR w' B v' (ps++[s])/\ Below B w w':=by
 have b1:Below w.heap.size w (w.alloc (.cells #[.string s] 9)):=zO _ _;obtain⟨v',w',h1,h2,h3,h4,h5⟩:=appSR B (w.alloc (.cells #[.string s] 9)) v ps [s] ⟨w.heap.size,0,none⟩ 1 (own_lowS h b1) (fun i hi=>by
  obtain rfl:i=0:=by simp at hi;omega
  simp [Addr.add,gS]) (by simp;omega) (by simp;omega)
 exact⟨v',w',h1,h2,(b1.mono hB).trans h4⟩
theorem PR.lit1 (w:World)(s:ByteArray):PR (w.alloc (.cells #[.string s] 9)) w.heap.size (.slice (some ⟨w.heap.size,0,none⟩) 1 1) [s]:=
 World.ownsRow_lit (base:=w.heap.size) (e:=9) (size:=1) w #[.string s] 1 zL (by unfold maxLen;omega) rfl
theorem PR.lit0 (w:World):PR (w.alloc (.cells #[] 9)) w.heap.size (.slice (some ⟨w.heap.size,0,none⟩) 0 0) []:=
 World.ownsRow_lit (base:=w.heap.size) (e:=9) (size:=1) w #[] 0 zL (by unfold maxLen;omega) rfl
def PaP (f:Nat ->Int)(n x:Nat)(p:List ByteArray):Prop:=p.length<=9/\∀(B rb:Nat) (w:World),B<=w.heap.size ->RdJ w B rb f n x ->
  Calls Tryz.prog 18 #[.pointer (some ⟨rb,0,none⟩)] w fun e w'=>∃pa pc,e=.returned (.slice pa p.length pc)/\ PtN w' w.heap.size pa pc p/\ RdJ w' B rb f n (rx n x)/\ w.grownBy w' (some rb)
theorem PaP.fin {f:Nat ->Int}{n x:Nat}{p:List ByteArray}{B rb:Nat}{w w1 w2:World}{v:Value}(hB:B<=w.heap.size)(r1:RdJ w1 B rb f n (rx n x))(g1:w.grownBy w1 (some rb))(h:PR w2 w1.heap.size v p)(b2:Below w1.heap.size w1 w2):∃pa pc,Ending.returned v=.returned (.slice pa p.length pc)/\ PtN w2 w.heap.size pa pc p/\ RdJ w2 B rb f n (rx n x)/\ w.grownBy w2 (some rb):=by
 obtain⟨pa,pc,e,hp⟩:=h.ptn g1.size;exact⟨pa,pc,by rw [e],hp,r1.below (b2.mono (by have:=g1.size;omega)),grown_belowJ g1 b2⟩
theorem pathA (f:Nat ->Int)(n x k:Nat)(hk:rk f n x=k)(h1:252<=k):∃p,PaP f n x p:=by
 obtain⟨r,hr⟩:∃r:Nat,k%2=r:=⟨_,rfl⟩;obtain⟨m,hm⟩:∃m:Nat,40+r=m:=⟨_,rfl⟩;obtain⟨t,ht⟩:∃t,txJ (rpt ⟨#[110]⟩ m)=t:=⟨_,rfl⟩;refine⟨[t],by simp,fun B rb w hB h=> ?_⟩;have HN:=hid (rdNextJ B rb f n x w h);rw [hk] at HN;have d1:(252:Int)<=(k:Int):=by omega
 have d2:(k:Int)%2=(r:Int):=by omega
 have d3:IntKind.i64.wrap (40+(r:Int))=(m:Int):=by rw [show (40:Int)+(r:Int)=(m:Int) by omega];exact wrapIn _ (by omega) (by omega)
 have HM:Hid (m<=1000):=hid (by omega);have HT:=hid ht;clear h hk hr hm ht;go_enter Tryz.func18,Tryz.ntmps18;go_wp2_with fail;refine HN.out.mono ?_;rintro e w1 ⟨rfl,r1,g1⟩;have HC:=hid (rdRepeatJ ⟨#[110]⟩ m w1 (by decide) HM.out);rw [HT.out] at HC;go_wp2_with fail;refine HC.out.mono ?_;rintro e w2 ⟨rfl,b2⟩;have HF:=hid (PaP.fin hB r1 g1 (own_weak5 (PR.lit1 w2 t) b2.size) (keepS b2 (zO _ _)));clear r1 g1 b2;go_wp2_with fail;go_ret;exact HF.out
theorem pathB (f:Nat ->Int)(n x k:Nat)(hk:rk f n x=k)(h1:¬252<=k)(h2:248<=k):∃p,PaP f n x p:=by
 obtain⟨r,hr⟩:∃r:Nat,k%2=r:=⟨_,rfl⟩;obtain⟨m,hm⟩:∃m:Nat,8+r=m:=⟨_,rfl⟩;refine⟨List.replicate m ⟨#[100]⟩,by simp;omega,fun B rb w hB h=> ?_⟩;have HN:=hid (rdNextJ B rb f n x w h);rw [hk] at HN;have d1:¬(252:Int)<=(k:Int):=by omega
 have d2:(248:Int)<=(k:Int):=by omega
 have d3:(k:Int)%2=(r:Int):=by omega
 have d4:IntKind.i64.wrap (8+(r:Int))=(m:Int):=by rw [show (8:Int)+(r:Int)=(m:Int) by omega];exact wrapIn _ (by omega) (by omega)
 have Hh:m<=9:=by omega
 clear h hk hr hm;go_enter Tryz.func18,Tryz.ntmps18;go_wp2_with fail;refine HN.out.mono ?_;rintro e w1 ⟨rfl,r1,g1⟩;have Hf:=hid r1;have He:=hid g1;have HE:=hid (PR.lit0 w1);have Hb:=hid (zO w1 (.cells #[] 9));clear r1 g1;go_wp2_with fail;go_loopw [4,5] (fun v i wr=>∃j:Nat,j<=m/\ i=.int .i64 (j:Int)/\ Hid (PR wr w1.heap.size v (List.replicate j ⟨#[100]⟩))/\ Hid (Below w1.heap.size w1 wr)) (fun _ i _=>m - (intOf i).toNat);case atStart=>exact⟨0,Nat.zero_le _,rfl,HE,Hb⟩
 case round=>
  clear HE Hb;obtain⟨j,hj,rfl,ho,hb⟩:=hrel;by_cases Hg:j<m
  ·obtain⟨v',w',Ha,hp,Hc⟩:=strApp1 w1.heap.size wr u4 _ ⟨#[100]⟩ ho.out hb.out.size (by simp;omega);have HP:Hid (PR w' w1.heap.size v' (List.replicate (j+1) ⟨#[100]⟩)):=hid (by rw [List.replicate_succ'];exact hp);have Hd:=hid (hb.out.trans Hc);clear hp Hc ho hb;go_wp2_with (at_builtin;refine wpList_appS rfl _ _ _ rfl Ha (by rfl) (by rfl) rfl ?_;clear Ha);go_roundw;case rel=>exact⟨j+1,Hg,by go_num,HP,Hd⟩
   case measure=>simp [intOf];omega
  ·obtain rfl:j=m:=by omega
   have HF:=hid (PaP.fin hB Hf.out He.out ho.out hb.out);clear ho hb;go_wp2_with fail;go_ret;exact HF.out
theorem pathC (f:Nat ->Int)(n x k:Nat)(hk:rk f n x=k)(h1:¬248<=k)(h2:244<=k):∃p,PaP f n x p:=by
 obtain⟨r,hr⟩:∃r:Nat,k%4=r:=⟨_,rfl⟩;have hl:(([⟨#[97]⟩,⟨#[]⟩,⟨#[98]⟩]:List ByteArray).take r).length=r:=by rw [List.length_take];show min r 3=r;omega
 refine⟨([⟨#[97]⟩,⟨#[]⟩,⟨#[98]⟩]:List ByteArray).take r,by omega,fun B rb w hB h=> ?_⟩;rw [hl];have HN:=hid (rdNextJ B rb f n x w h);rw [hk] at HN;have d1:¬(252:Int)<=(k:Int):=by omega
 have d2:¬(248:Int)<=(k:Int):=by omega
 have d3:(244:Int)<=(k:Int):=by omega
 have d4:(k:Int)%4=(r:Int):=by omega
 have d5:r<4:=by omega
 have HL:=hid hl;clear h hk hr hl;go_enter Tryz.func18,Tryz.ntmps18;go_wp2_with fail;refine HN.out.mono ?_;rintro e w1 ⟨rfl,r1,g1⟩;have Hb:=hid r1;have Ha:=hid g1;clear r1 g1;go_wp2_with fail;go_ret;have b2:Below w1.heap.size w1 (w1.alloc (.cells #[.string ⟨#[97]⟩,.string ⟨#[]⟩,.string ⟨#[98]⟩] 9)):=zO _ _;refine⟨_,3,rfl,⟨by rw [HL.out];omega,fun w' z1 z2=> ?_⟩,Hb.out.below (b2.mono (by have:=Ha.out.size;omega)),grown_belowJ Ha.out b2⟩;have e:=z2 w1.heap.size Ha.out.size (by simp);refine .inr ⟨w1.heap.size,0,rfl,by simp at z1;omega,fun i hi=> ?_⟩;rw [World.cell?_of_block (a:=⟨w1.heap.size,0+i,none⟩) e,Nat.zero_add];rw [HL.out] at hi;have Hc:i<3:=by omega
 match i,hi,Hc with
 | 0,hi,_=>simp [gS,List.getD,hi]
 | 1,hi,_=>simp [gS,List.getD,hi]
 | 2,hi,_=>simp [gS,List.getD,hi]
theorem pathD (f:Nat ->Int)(n x k:Nat)(hk:rk f n x=k)(h1:¬244<=k):∃p,PaP f n x p:=by
 obtain⟨r1,Hh⟩:∃r:Nat,k%3=r:=⟨_,rfl⟩;obtain⟨m1,Hf⟩:∃r:Nat,r1+1=r:=⟨_,rfl⟩;obtain⟨q,hq⟩:∃r:Nat,k/3%3=r:=⟨_,rfl⟩;obtain⟨r2,Hi⟩:∃r:Nat,k/9%2=r:=⟨_,rfl⟩;obtain⟨m2,Hg⟩:∃r:Nat,r2+1=r:=⟨_,rfl⟩;obtain⟨r3,Hj⟩:∃r:Nat,k/18%3=r:=⟨_,rfl⟩;have d1:¬(252:Int)<=(k:Int):=by omega
 have d2:¬(248:Int)<=(k:Int):=by omega
 have d3:¬(244:Int)<=(k:Int):=by omega
 have d4:(k:Int)%3=(r1:Int):=by omega
 have d5:(k:Int)/3%3=(q:Int):=by omega
 have d6:(k:Int)/9%2=(r2:Int):=by omega
 have d7:(k:Int)/18%3=(r3:Int):=by omega
 have e1:IntKind.i64.wrap ((r1:Int)+1)=(m1:Int):=by rw [show (r1:Int)+1=(m1:Int) by omega];exact wrapIn _ (by omega) (by omega)
 have e2:IntKind.i64.wrap ((r2:Int)+1)=(m2:Int):=by rw [show (r2:Int)+1=(m2:Int) by omega];exact wrapIn _ (by omega) (by omega)
 have l1:r1<3:=by omega
 have l2:r2<2:=by omega
 have l3:r3<3:=by omega
 have l4:q<3:=by omega
 have n1:m1<=3/\ r1<=m1:=by omega
 have n2:m2<=2/\ r2<=m2:=by omega
 obtain⟨s1,Hk⟩:∃s,(⟨#[97,98,99]⟩:ByteArray).extract r1 m1=s:=⟨_,rfl⟩;obtain⟨s2,Hl⟩:∃s,(⟨#[97,98]⟩:ByteArray).extract r2 m2=s:=⟨_,rfl⟩;obtain⟨s3,Hm⟩:∃s,(⟨#[97,255,47]⟩:ByteArray).extract r3 3=s:=⟨_,rfl⟩;clear Hh Hf hq Hi Hg Hj;obtain⟨Hn,Ho⟩:=n1;obtain⟨Hp,Hq⟩:=n2;by_cases q0:q=0
 ·have t1:¬(0:Int)<(q:Int):=by omega
  have t2:¬(1:Int)<(q:Int):=by omega
  refine⟨[s1],by simp,fun B rb w hB h=> ?_⟩;have HN:=hid (rdNextJ B rb f n x w h);rw [hk] at HN;clear h hk;go_enter Tryz.func18,Tryz.ntmps18;go_wp2_with fail;refine HN.out.mono ?_;rintro e w1 ⟨rfl,r1,g1⟩;have HF:=hid (PaP.fin hB r1 g1 (PR.lit1 w1 s1) (zO _ _));clear r1 g1;go_wp2_with fail;go_ret;exact HF.out
 ·have t1:(0:Int)<(q:Int):=by omega
  by_cases q1:q=1
  ·have t2:¬(1:Int)<(q:Int):=by omega
   refine⟨[s1]++[s2],by simp,fun B rb w hB h=> ?_⟩;have HN:=hid (rdNextJ B rb f n x w h);rw [hk] at HN;clear h hk;go_enter Tryz.func18,Tryz.ntmps18;go_wp2_with fail;refine HN.out.mono ?_;rintro e w1 ⟨rfl,r1,g1⟩;obtain⟨v',w',Ha,hp,Hc⟩:=strApp1 w1.heap.size (w1.alloc (.cells #[.string s1] 9)) _ _ s2 (PR.lit1 w1 s1) (by simp) (by simp);rw [show (w1.alloc (.cells #[.string s1] 9)).heap.size=w1.heap.size+1 from by simp] at Ha;have HF:=hid (PaP.fin hB r1 g1 hp ((zO _ _).trans Hc));clear r1 g1 hp Hc;go_wp2_with (at_builtin;refine wpList_appS rfl _ _ _ rfl Ha (by rfl) (by rfl) rfl ?_;clear Ha);go_ret;exact HF.out
  ·have t2:(1:Int)<(q:Int):=by omega
   refine⟨[s1]++[s2]++[s3],by simp,fun B rb w hB h=> ?_⟩;have HN:=hid (rdNextJ B rb f n x w h);rw [hk] at HN;clear h hk;go_enter Tryz.func18,Tryz.ntmps18;go_wp2_with fail;refine HN.out.mono ?_;rintro e w1 ⟨rfl,r1,g1⟩;obtain⟨v',w',Ha,hp,Hc⟩:=strApp1 w1.heap.size (w1.alloc (.cells #[.string s1] 9)) _ _ s2 (PR.lit1 w1 s1) (by simp) (by simp);rw [show (w1.alloc (.cells #[.string s1] 9)).heap.size=w1.heap.size+1 from by simp] at Ha;have b1:Below w1.heap.size w1 w':=(zO _ _).trans Hc;obtain⟨v2,w2,Hb,He,Hd⟩:=strApp1 w1.heap.size w' _ _ s3 hp b1.size (by simp);have HF:=hid (PaP.fin hB r1 g1 He (b1.trans Hd));clear r1 g1 hp Hc b1 He Hd;go_wp2_with (at_builtin;first|(refine wpList_appS rfl _ _ _ rfl Ha (by rfl) (by rfl) rfl ?_;clear Ha)|(refine wpList_appS rfl _ _ _ rfl Hb (by rfl) (by rfl) rfl ?_;clear Hb));go_ret;exact HF.out
theorem pathJ (f:Nat ->Int)(n x:Nat):∃p,PaP f n x p:=by
 by_cases h1:252<=rk f n x
 ·exact pathA f n x _ rfl h1
 ·by_cases h2:248<=rk f n x
  ·exact pathB f n x _ rfl h1 h2
  ·by_cases h3:244<=rk f n x
   ·exact pathC f n x _ rfl h2 h3
   ·exact pathD f n x _ rfl h3
open Go.Deep
theorem cutC {G T:Prop}(h:Hid T ->G)(k:T):G:=h k
theorem l3ChangeC (gn:Lf ->Prop)(P:List Lf)(a:Option Addr)(c:Nat)(xa:Option Addr)(d gg gc:Nat)(pa:Option Addr)(ppc:Nat)(S:Sx)(w:World)(hs:StOk S.R S.F S.T S.n S.l)(hP:PtO S P)(h1:LCap w a S.l)(h3:RSeg w xa S.n S.R S.F S.T)(hgg:gg<w.heap.size)(hgo:∀i,i<S.l.length ->w.cell? ⟨gg,i,none⟩=some (.bool (yes (gn (gL S.l i)))))(h2:LCap w pa P):
  Calls Tryz.prog 27 #[.agg #[.slice a S.l.length c,.slice xa S.n d],.slice (some ⟨gg,0,none⟩) S.l.length gc,.slice pa P.length ppc] w fun e w'=>∃a m x t a' m' x' t',e=.returned (.tuple #[.agg #[.slice a (chX S (dlS gn S.l P)).l.length m,.slice x (chX S (dlS gn S.l P)).n t],.agg #[.slice a' (chY S (dlS gn S.l P)).l.length m',.slice x' (chY S (dlS gn S.l P)).n t'],.int .i64 (chC S (dlS gn S.l P))])/\ SNc w' w.heap.size a x (chX S (dlS gn S.l P))/\ SNc w' w.heap.size a' x' (chY S (dlS gn S.l P))/\ Below w.heap.size w w':=by
 obtain⟨WA,Gy⟩:∃WA,((w.alloc (.cells #[.slice a S.l.length c,.slice xa S.n d] 28)).alloc (.cells #[.slice none 0 0,.slice none 0 0] 28)).alloc (.cells #[.slice none 0 0,.slice none 0 0] 28)=WA:=⟨_,rfl⟩;obtain⟨W,hW⟩:∃W,(((WA.alloc (.cells #[] 60)).alloc (.cells #[] 96)).alloc (.cells #[.slice (some ⟨WA.heap.size,0,none⟩) 0 0,.slice (some ⟨WA.heap.size+1,0,none⟩) 0 0] 28)).alloc (.cells #[] 60)=W:=⟨_,rfl⟩;have zA:WA.heap.size=w.heap.size+1+1+1:=by rw [<- Gy];simp
 have bA:Below w.heap.size w WA:=by rw [<- Gy];exact(below2 _ _ _).alloc (by simp;omega) _
 have al:∀(v:World) (o:Obj),Below v.heap.size v (v.alloc o):=fun v o=>zO _ _;have Kq:Below WA.heap.size WA W:=by rw [<- hW];exact(keepS (keepS (keepS (al _ _) (al _ _)) (al _ _)) (al _ _))
 have b0:Below w.heap.size w W:=keepS bA Kq;have zW:W.heap.size=w.heap.size+7:=by rw [<- hW];simp;omega
 have A0:Bx2 W w.heap.size (.slice a S.l.length c) (.slice xa S.n d):=by
  have:Bx2 WA w.heap.size (.slice a S.l.length c) (.slice xa S.n d):=by rw [<- Gy];exact((Bx2.made w _ _ _).allocs _).allocs _
  exact this.below Kq this.lt
 have J7:Bx2 W (w.heap.size+1) (.slice none 0 0) (.slice none 0 0):=by
  have:Bx2 WA (w.heap.size+1) (.slice none 0 0) (.slice none 0 0):=by
   rw [<- Gy];have:=Bx2.made (w.alloc (.cells #[.slice a S.l.length c,.slice xa S.n d] 28)) (.slice none 0 0) (.slice none 0 0) 28;exact(by simpa using this:Bx2 _ (w.heap.size+1) _ _).allocs _
  exact this.below Kq this.lt
 have J8:Bx2 W (w.heap.size+1+1) (.slice none 0 0) (.slice none 0 0):=by
  have:Bx2 WA (w.heap.size+1+1) (.slice none 0 0) (.slice none 0 0):=by
   rw [<- Gy];simpa using Bx2.made ((w.alloc (.cells #[.slice a S.l.length c,.slice xa S.n d] 28)).alloc (.cells #[.slice none 0 0,.slice none 0 0] 28)) (.slice none 0 0) (.slice none 0 0) 28
  exact this.below Kq this.lt
 have J5:LC W (w.heap.size+3) (.slice (some ⟨WA.heap.size,0,none⟩) 0 0) [] (fun _=>0) (fun _=>0):=by
  refine⟨?_,fun i hi=>by simp at hi⟩;have q:=World.ownsRow_lit (base:=w.heap.size+3) (e:=60) (size:=5) WA #[] 0 (by omega) (by unfold maxLen;omega) rfl;have q3:=((World.ownsRow.alloc q (.cells #[] 96)).alloc (.cells #[.slice (some ⟨WA.heap.size,0,none⟩) 0 0,.slice (some ⟨WA.heap.size+1,0,none⟩) 0 0] 28)).alloc (.cells #[] 60);rw [hW] at q3;exact q3
 have Jx:FR W (w.heap.size+3) (.slice (some ⟨WA.heap.size+1,0,none⟩) 0 0) []:=by
  have q:=World.ownsRow_lit (base:=w.heap.size+3) (e:=96) (size:=3) (WA.alloc (.cells #[] 60)) #[] 0 (by simp;omega) (by unfold maxLen;omega) rfl;have zz:(WA.alloc (.cells #[] 60)).heap.size=WA.heap.size+1:=by simp
  rw [zz] at q;have q3:=(World.ownsRow.alloc q (.cells #[.slice (some ⟨WA.heap.size,0,none⟩) 0 0,.slice (some ⟨WA.heap.size+1,0,none⟩) 0 0] 28)).alloc (.cells #[] 60);rw [hW] at q3;exact q3
 have D0:Bx2 W (WA.heap.size+1+1) (.slice (some ⟨WA.heap.size,0,none⟩) 0 0) (.slice (some ⟨WA.heap.size+1,0,none⟩) 0 0):=by
  have q:=Bx2.made ((WA.alloc (.cells #[] 60)).alloc (.cells #[] 96)) (.slice (some ⟨WA.heap.size,0,none⟩) 0 0) (.slice (some ⟨WA.heap.size+1,0,none⟩) 0 0) 28;have zz:((WA.alloc (.cells #[] 60)).alloc (.cells #[] 96)).heap.size=WA.heap.size+1+1:=by simp
  rw [zz] at q;have q3:=q.allocs (.cells #[] 60);rw [hW] at q3;exact q3
 have J6:LC W (w.heap.size+3) (.slice (some ⟨WA.heap.size+1+1+1,0,none⟩) 0 0) [] (fun _=>0) (fun _=>0):=by
  refine⟨?_,fun i hi=>by simp at hi⟩;have q:=World.ownsRow_lit (base:=w.heap.size+3) (e:=60) (size:=5) (((WA.alloc (.cells #[] 60)).alloc (.cells #[] 96)).alloc (.cells #[.slice (some ⟨WA.heap.size,0,none⟩) 0 0,.slice (some ⟨WA.heap.size+1,0,none⟩) 0 0] 28)) #[] 0 (by simp;omega) (by unfold maxLen;omega) rfl;have zz:(((WA.alloc (.cells #[] 60)).alloc (.cells #[] 96)).alloc (.cells #[.slice (some ⟨WA.heap.size,0,none⟩) 0 0,.slice (some ⟨WA.heap.size+1,0,none⟩) 0 0] 28)).heap.size=WA.heap.size+1+1+1:=by simp
  rw [zz,hW] at q;exact q
 have Ks:=ctxB_iff.1 hs.1;have HU:=hid (specUnion2 xa S.n d S.R S.F S.T (some ⟨WA.heap.size+1,0,none⟩) 0 0 (fun _=>0) (fun _=>0) (fun _=>0) W Ks.2 (by omega) (h3.below b0) (.inl rfl) Ks.1 (fun i hi=>absurd hi (by omega)));have J3:Hid (unL S.R S.F S.T S.n (fun _=>0) (fun _=>0) (fun _=>0) 0=cNR S P 0):=hid (by unfold unL cNR;simp [flat]);rw [J3.out] at HU;have Ll:Hid (WA.heap.size=w.heap.size+3):=hid (by omega);have H1:=hid h1;have H2:=hid h2;have Jc:=hid hs;have Jp:=hid hP;have Lk:Hid (∀wr,Below w.heap.size w wr ->∀i,i<S.l.length ->wr.cell? ⟨gg,i,none⟩=some (.bool (yes (gn (gL S.l i))))):=hid (fun wr b i hi=>(b.cell (p:=⟨gg,i,none⟩) hgg).trans (hgo i hi));have Kj:Hid (S.l.length<=1000/\ S.n<=1000/\ P.length<=1):=hid ⟨hs.2.1,Ks.2,hP.one⟩;have Jh:=hid A0;have Gv:=hid J7;have Gw:=hid J8;have Jk:=hid D0;have Kh:=hid J5;have Kg:=hid Jx;have Kk:=hid J6;have Jy:=hid b0;have J4:=hid zW;obtain⟨X,hX⟩:∃X,chX S (dlS gn S.l P)=X:=⟨_,rfl⟩;obtain⟨Y,hY⟩:∃Y,chY S (dlS gn S.l P)=Y:=⟨_,rfl⟩;obtain⟨CC,hC⟩:∃CC,chC S (dlS gn S.l P)=CC:=⟨_,rfl⟩;have Hl:=hid (And.intro hX (And.intro hY hC));rw [hX,hY,hC];have k1:=A0.c1;have k2:=D0.c1;have Hz:Hid (∀j k,FSrt (cDR gn S.l P j k)/\ (cDR gn S.l P j k).length<=1001):=hid (fun j k=>⟨cDR_ok hs hP j k,by have:=cDR_len (g:=gn) (l:=S.l) (P:=P) (j:=j) (k:=k);have:=hs.2.1;have:=hP.one;omega⟩);have Go:Hid (∀k,FSrt (cNR S P k)/\ (cNR S P k).length<=1001):=hid (fun k=>⟨cNR_ok hs hP k,by have:=cNR_len (P:=P) (k:=k) (S:=S);have:=Ks.2;have:=hP.one;omega⟩);have Hr:Hid (∀j k,(cNL gn S.l P j k).length<=1001/\∀i,i<(cNL gn S.l P j k).length ->1<=(gL (cNL gn S.l P j k) i).p.length/\ (gL (cNL gn S.l P j k) i).p.length<=8):=hid (fun j k=>⟨by have:=cNL_len (g:=gn) (l:=S.l) (P:=P) (j:=j) (k:=k);have:=hs.2.1;have:=hP.one;omega,cNL_pth hs hP j k⟩);have H9:Hid (∀k,(cDL P k).length<=1/\∀i,i<(cDL P k).length ->1<=(gL (cDL P k) i).p.length/\ (gL (cDL P k) i).p.length<=8):=hid (fun k=>⟨by have:=cDL_len (P:=P) (k:=k);have:=hP.one;omega,cDL_pth hP k⟩);clear A0 J7 J8 D0 J5 Jx J6 b0 bA Kq al zA zW h1 h2 h3 hs hP hgo hgg Ks hX hY hC J3;go_enter Tryz.func27,Tryz.ntmps27;go_wp2_with fail;try rw [Gy]
 try rw [hW]
 clear hW Gy;refine HU.out.mono ?_;rintro e w1 ⟨vr,rfl,f1,b1⟩;obtain⟨ra,rc,Lx,_⟩:=f1.fs;subst Lx;obtain⟨nu,Ld⟩:∃nu,(cNR S P 0).length=nu:=⟨_,rfl⟩;rw [Ld] at f1 ⊢;clear Ld;obtain⟨w2,Je⟩:∃w2,w1.alloc (.cells #[.slice (some ⟨WA.heap.size+1+1+1,0,none⟩) 0 0,.slice ra nu rc] 28)=w2:=⟨_,rfl⟩;have b2:Below w1.heap.size w1 w2:=by rw [<- Je];exact zO _ _
 have Gf:=keepS b1 b2;have H0:Hid (CS w w2 (WA.heap.size+1+1) w1.heap.size (.slice a S.l.length c) (.slice xa S.n d) WA.heap.size 0 [] (fun _=>0) (fun _=>0) (.slice (some ⟨WA.heap.size+1,0,none⟩) 0 0) (cDR gn S.l P 0 0) (WA.heap.size+1+1+1) 0 (cNL gn S.l P 0 0) (fun _=>0) (fun _=>0) (.slice ra nu rc) (cNR S P 0)):=hid (by
  have hz:=J4.out;have L6:=b1.size;have L0:=Ll.out;have e1:cDR gn S.l P 0 0=[]:=by unfold cDR goL;simp [unF]
  have e2:cNL gn S.l P 0 0=[]:=by unfold cNL stL;simp
  rw [e1,e2];refine⟨keepS Jy.out Gf,Jh.out.below Gf Jh.out.lt,Gv.out.below Gf Gv.out.lt,Gw.out.below Gf Gw.out.lt,Jk.out.below Gf Jk.out.lt,?_,Kh.out.below Gf,Kk.out.below Gf,Kg.out.below Gf,(f1.below b2).weak (by omega),by omega,by omega,by omega,⟨by omega,by omega,by omega⟩,⟨by omega,by omega⟩,fun b e=> ?_,fun b e=> ?_,fun i hi=>by simp at hi,fun i hi=>by simp at hi⟩
  ·rw [<- Je];exact Bx2.made _ _ _ _
  ·have e:WA.heap.size+1=b:=by simpa [Value.ownBlock] using e
   exact⟨by omega,by omega,by omega⟩
  ·have:=World.ownsRow.lt f1 b e;exact⟨by omega,by omega,by omega⟩)
 clear f1 b1 b2 Gf k1 k2 HU Jh Gv Gw Jk Kh Kg Kk Jy J4;go_wp2_with fail;try rw [Je]
 clear Je;obtain⟨t2,La⟩:∃t2,w1.heap.size=t2:=⟨_,rfl⟩;rw [La] at H0 ⊢;clear La;obtain⟨t1,Le⟩:∃t1,WA.heap.size+1+1=t1:=⟨_,rfl⟩;rw [Le] at H0 ⊢;clear Le;obtain⟨gD,Lc⟩:∃gD,WA.heap.size=gD:=⟨_,rfl⟩;rw [Lc] at H0;clear Lc;go_loopw [11] (fun i wr=>∃(j gN cN:Nat) (NP NQ:Nat ->Nat) (Gn:Value),j<=S.l.length/\ i=.int .i64 j/\ Hid (CS w wr t1 t2 (.slice a S.l.length c) (.slice xa S.n d) gD 0 [] (fun _=>0) (fun _=>0) Gn (cDR gn S.l P j 0) gN cN (cNL gn S.l P j 0) NP NQ (.slice ra nu rc) (cNR S P 0))) (fun i _=>S.l.length - (intOf i).toNat);case atStart=>exact⟨0,_,_,_,_,_,Nat.zero_le _,rfl,H0⟩
 case round=>
  clear H0;obtain⟨j,gN,cN,NP,NQ,Gn,hj,rfl,HS⟩:=hrel;have L3:S.l.length<=1000:=Kj.out.1;have a0:=HS.out.a.c0;by_cases Hw:j<S.l.length
  ·have i1:(0:Int)<=(j:Int):=Int.natCast_nonneg _;have i2:(j:Int)<(S.l.length:Int):=by omega
   obtain⟨ab,ao,rfl,G6,Kr⟩:=(H1.out).resolve_left (by omega);obtain⟨Ly,pc,⟨c0,d0⟩,sg,c1,c2,c3,c4⟩:=Kr j Hw;have Gj:=ok_pth Jc.out j Hw;obtain⟨pb,po,rfl,G5,Gh⟩:=sg.resolve_left (by omega);have Gk:Hid (Rok (dtR (gL S.l j))):=hid (has_rok (ok_okTo Jc.out) (ok_has Jc.out _ (gL_mem.2 ⟨j,Hw,rfl⟩)));have K7:=hid (fun wr b=>Lk.out wr b j Hw);obtain⟨y,hy⟩:∃y,gL S.l j=y:=⟨_,rfl⟩;rw [hy] at c0 c1 c2 c3 c4 d0 Gh Gj Gk K7;have HY:=hid hy;obtain⟨yp,yf,yr,yq,yv⟩:=y;dsimp only at c0 c1 c2 c3 c4 d0 Gh Gj Gk K7;have H8:Hid (∀w',Below w.heap.size w w' ->(w'.cell? ⟨ab,ao+j*5,none⟩=some (.slice (some ⟨pb,po,none⟩) yp.length pc)/\ w'.cell? ⟨ab,ao+j*5+1,none⟩=some (.bool yf)/\ w'.cell? ⟨ab,ao+j*5+2,none⟩=some (.int .i64 yr)/\ w'.cell? ⟨ab,ao+j*5+3,none⟩=some (.int .i64 yq)/\ w'.cell? ⟨ab,ao+j*5+4,none⟩=some (.string yv))):=hid (fun w' b=>⟨(b.cell (p:=⟨ab,_,none⟩) G6).trans c0,(b.cell (p:=⟨ab,_,none⟩) G6).trans c1,(b.cell (p:=⟨ab,_,none⟩) G6).trans c2,(b.cell (p:=⟨ab,_,none⟩) G6).trans c3,(b.cell (p:=⟨ab,_,none⟩) G6).trans c4⟩);have Ko:Hid (∀w',Below w.heap.size w w' ->pb<w'.heap.size/\∀t,t<yp.length ->w'.cell? ⟨pb,po+t,none⟩=some (.string (gS yp t))):=hid (fun w' b=>⟨Nat.lt_of_lt_of_le G5 b.size,fun t ht=>(b.cell (p:=⟨pb,po+t,none⟩) G5).trans (Gh t ht)⟩);have Gx:=hid Gj;obtain⟨w5,Gi⟩:∃w5,wr.alloc (.cells #[.int .i64 yr,.int .i64 yq] 58)=w5:=⟨_,rfl⟩;have b5:Below wr.heap.size wr w5:=by rw [<- Gi];exact zO _ _
   have X5:Bx2 w5 wr.heap.size (.int .i64 yr) (.int .i64 yq):=by rw [<- Gi];exact Bx2.made _ _ _ _
   have Hc:=hid (HS.out.below b5);have m2:=(H8.out wr HS.out.low).2.2.1;have m3:=(H8.out wr HS.out.low).2.2.2.1;have m5:=K7.out w5 Hc.out.low;have x0:=X5.c0;have x1:=X5.c1;clear hy Kr sg Gh G5 G6 b5 X5 d0 Gj HS K7 c0 c1 c2 c3 c4;cases hgj:yes (gn ⟨yp,yf,yr,yq,yv⟩) with
   | true=>
    rw [hgj] at m5;have G0:gn (gL S.l j):=by rw [HY.out];exact yes_iff.1 hgj
    have Ga:Hid (ins (cDR gn S.l P j 0) (yr,yq,yq)=cDR gn S.l P (j+1) 0):=hid (by rw [cDR_go Hw G0,HY.out];rfl);have Gb:Hid (cNL gn S.l P j 0=cNL gn S.l P (j+1) 0):=hid (cNL_go Hw G0).symm;obtain⟨fx,fc,Kz,Lb,_,_⟩:=Hc.out.fd.fs;subst Kz;have Jm:=hid (specIns fx fc (cDR gn S.l P j 0) yr yq yq w5 (by have:=(Hz.out j 0).2;omega) Lb (Hz.out j 0).1 Gk.out);have d1:=Hc.out.d.c1;obtain⟨ln,H5⟩:∃ln,(cDR gn S.l P j 0).length=ln:=⟨_,rfl⟩;rw [H5] at Jm d1;clear Lb G0 hgj;go_wp2_with fail;refine Jm.out.mono ?_;rintro e w6 ⟨v6,rfl,Gz,b6⟩;obtain⟨vy,vm,vc,rfl⟩:=row_form Gz;have D6:=Hc.out.d.below b6 Hc.out.d.lt;have o1:=D6.c1;have of:=D6.f;rw [H5] at o1;have H4:=hid (Hc.out.setD1 b6 Gz);rw [Ga.out,Gb.out] at H4;clear Gz b6 D6 Jm x0 x1 m2 m3 m5 d1 a0 Gi H5 Hc;go_wp2_with fail;go_roundw;case rel=>exact⟨j+1,gN,cN,NP,NQ,_,Hw,by go_num,H4⟩
    case measure=>simp [intOf];omega
   | false=>
    rw [hgj] at m5;have G0:¬gn (gL S.l j):=by rw [HY.out];intro h;rw [yes_t h] at hgj;cases hgj
    have Ga:Hid (cDR gn S.l P j 0=cDR gn S.l P (j+1) 0):=hid (cDR_st Hw G0).symm;have Gb:Hid (cNL gn S.l P j 0++[⟨yp,yf,yr,yq,yv⟩]=cNL gn S.l P (j+1) 0):=hid (by rw [cNL_st Hw G0,HY.out]);have Hn:Hid (∀w',Below w.heap.size w w' ->w'.cell? ⟨w.heap.size,0,none⟩=some (.slice (some ⟨ab,ao,none⟩) S.l.length c) ->(Below w.heap.size w w'/\ w'.cell? ⟨w.heap.size,0,none⟩=some (.slice (some ⟨ab,ao,none⟩) S.l.length c)/\ w'.cell? ⟨ab,ao+j*5,none⟩=some (.slice (some ⟨pb,po,none⟩) yp.length pc)/\ w'.cell? ⟨ab,ao+j*5+1,none⟩=some (.bool yf)/\ w'.cell? ⟨ab,ao+j*5+2,none⟩=some (.int .i64 yr)/\ w'.cell? ⟨ab,ao+j*5+3,none⟩=some (.int .i64 yq)/\ w'.cell? ⟨ab,ao+j*5+4,none⟩=some (.string yv))):=hid (fun w' hB h0=>⟨hB,h0,H8.out w' hB⟩);have Ki:Hid (∀w',Below w5.heap.size w5 w' ->Calls Tryz.prog 49 #[.agg #[.slice (some ⟨pb,po,none⟩) yp.length pc,.bool yf,.int .i64 yr,.int .i64 yq,.string yv]] w' fun e w''=>∃q cap,e=.returned (.agg #[.slice (some ⟨q,0,none⟩) yp.length cap,.bool yf,.int .i64 yr,.int .i64 yq,.string yv])/\ Below w'.heap.size w' w''/\ w'.heap.size<=q/\ q<w''.heap.size/\ Wr w'' q 9 yp.length (fun t=> .string (gS yp t))/\ yp.length<=cap/\ cap<=9223372036854775807):=hid (fun w' b=>by
     have hq:=Ko.out w' (keepS Hc.out.low b);exact l3LeafB pb po yp.length pc ⟨yp,yf,yr,yq,yv⟩ w' rfl (by have:=Gx.out.2;omega) hq.1 hq.2)
    have Kp:Hid (∀w7 p pc',Below w5.heap.size w5 w7 ->w5.heap.size<=p ->p<w7.heap.size ->Wr w7 p 9 yp.length (fun t=> .string (gS yp t)) ->yp.length<=pc'/\ pc'<=9223372036854775807 ->_):=hid (fun w7 p pc' b7 p1 p2 hw hcap=>Hc.out.appN (y:=⟨yp,yf,yr,yq,yv⟩) (p:=p) (pc:=pc') b7 (by have:=(Hr.out j 0).1;omega) Gx.out.1 (fun i hi=>((Hr.out j 0).2 i hi).1) p1 p2 hw hcap);obtain⟨ln,H5⟩:∃ln,(cNL gn S.l P j 0).length=ln:=⟨_,rfl⟩;have Gd:=hid H5;clear G0 hgj H8 Ko;go_wp2_with fail;try rw [Gi]
    clear Gi x0 x1 m2 m3 m5 a0;refine zR (S:=fun w'=>Below w.heap.size w w'/\ w'.cell? ⟨w.heap.size,0,none⟩=some (.slice (some ⟨ab,ao,none⟩) S.l.length c)/\ w'.cell? ⟨ab,ao+j*5,none⟩=some (.slice (some ⟨pb,po,none⟩) yp.length pc)/\ w'.cell? ⟨ab,ao+j*5+1,none⟩=some (.bool yf)/\ w'.cell? ⟨ab,ao+j*5+2,none⟩=some (.int .i64 yr)/\ w'.cell? ⟨ab,ao+j*5+3,none⟩=some (.int .i64 yq)/\ w'.cell? ⟨ab,ao+j*5+4,none⟩=some (.string yv)) (Hn.out _ Hc.out.low.drew (Hc.out.a.below zI.drew Hc.out.a.lt).c0) (fun qh=> ?_);refine tZ 0 56 ?_;refine tZ 2 58 ?_;refine tZ 3 59 ?_;refine tZ 4 60 ?_;refine tZ 5 61 ?_;refine tZ 6 62 ?_;refine ready2t (i:=1) (j:=7) (d:=some 57) (d':=some 63) (by kernel_rfl) (by kernel_rfl) (by kernel_rfl) ?_ ?_
    ·
     have t0:=(Hc.out.n.below zI.drew Hc.out.n.lt).c0;rw [H5] at t0;intro o ho G4 K hK;simp only [gZa,gZb,gZc,gZd] at ho;subst ho;go_simp;refine hK.out _ _ (Hn.out _ Hc.out.low.drew (Hc.out.a.below zI.drew Hc.out.a.lt).c0) (fun qh=> ?_);clear hK K;try simp only [zP]
     clear t0;refine cZ 7 ?_;intro K hK;go_simp;refine(Ki.out _ zI.drew).mono ?_;rintro e w7 ⟨p7,K0,rfl,b7,Kb,Kc,Hp,G7⟩;have Ha:Below w5.heap.size w5 w7:=⟨b7.os,b7.tape,b7.output,b7.size,b7.block⟩;have L1:=Hc.out.below Ha;have L2:=L1.below (zO w7 (.cells #[.slice (some ⟨p7,0,none⟩) yp.length K0,.bool yf,.int .i64 yr,.int .i64 yq,.string yv] 60));obtain⟨q8,Gg,w8,Hj,l8,A8,O8,P8,Q8,h8⟩:=Kp.out w7 p7 K0 Ha Kb Kc Hp G7;have Gp:=hid h8;refine hK.out _ _ (Hn.out _ L1.low L1.a.c0) (fun qh=> ?_);clear hK K;try simp only [zP]
     refine cZ 8 ?_;intro K hK;go_simp;refine hK.out _ _ (Hn.out _ L2.low L2.a.c0) (fun qh=> ?_);clear hK K;try simp only [zP]
     rw [Gd.out] at Hj;refine cZ 9 ?_;intro K hK;refine wp_app2 _ _ _ _ rfl Hj (by rfl) (by rfl) rfl ?_;refine hK.out _ _ (Hn.out _ l8 A8.c0) (fun qh=> ?_);clear hK K;try simp only [zP]
     refine tZ 10 66 ?_;have t0:=O8.c0;have tf:=O8.f;rw [Gd.out] at t0;refine cZ 11 ?_;intro K hK;go_simp;have h9:=Gp.out;rw [Gd.out] at h9;refine hK.out _ _ (Hn.out _ h9.low h9.a.c0) (fun qh=> ?_);clear hK K;try simp only [zP]
     refine zD ?_;have Gl:=hid h9;rw [Ga.out,Gb.out] at Gl;clear qh b7 Ha L1 L2 Hj l8 A8 O8 h8 h9 t0 tf Hp G7 Kb Kc Kp Ki Hn Gp Hc H5;go_wp2_with fail;go_roundw;case rel=>exact⟨j+1,q8,Gg,P8,Q8,Gn,Hw,by go_num,Gl⟩
     case measure=>simp [intOf];omega
    ·
     intro o ho G4 K hK;simp only [gZa,gZb,gZc,gZd] at ho;subst ho;go_simp;refine(Ki.out _ zI.drew).mono ?_;rintro e w7 ⟨p7,K0,rfl,b7,Kb,Kc,Hp,G7⟩;have Ha:Below w5.heap.size w5 w7:=⟨b7.os,b7.tape,b7.output,b7.size,b7.block⟩;have L1:=Hc.out.below Ha;have L2:=L1.below (zO w7 (.cells #[.slice (some ⟨p7,0,none⟩) yp.length K0,.bool yf,.int .i64 yr,.int .i64 yq,.string yv] 60));obtain⟨q8,Gg,w8,Hj,l8,A8,O8,P8,Q8,h8⟩:=Kp.out w7 p7 K0 Ha Kb Kc Hp G7;have Gp:=hid h8;refine hK.out _ _ (Hn.out _ L1.low L1.a.c0) (fun qh=> ?_);clear hK K;try simp only [zP]
     refine ready2t (i:=1) (j:=8) (d:=some 57) (d':=some 64) (by kernel_rfl) (by kernel_rfl) (by kernel_rfl) ?_ ?_
     ·
      have t0:=L1.n.c0;rw [H5] at t0;intro o ho G4 K hK;simp only [gZa,gZb,gZc,gZd] at ho;subst ho;go_simp;refine hK.out _ _ (Hn.out _ L1.low L1.a.c0) (fun qh=> ?_);clear hK K;try simp only [zP]
      clear t0;refine cZ 8 ?_;intro K hK;go_simp;refine hK.out _ _ (Hn.out _ L2.low L2.a.c0) (fun qh=> ?_);clear hK K;try simp only [zP]
      rw [Gd.out] at Hj;refine cZ 9 ?_;intro K hK;refine wp_app2 _ _ _ _ rfl Hj (by rfl) (by rfl) rfl ?_;refine hK.out _ _ (Hn.out _ l8 A8.c0) (fun qh=> ?_);clear hK K;try simp only [zP]
      refine tZ 10 66 ?_;have t0:=O8.c0;have tf:=O8.f;rw [Gd.out] at t0;refine cZ 11 ?_;intro K hK;go_simp;have h9:=Gp.out;rw [Gd.out] at h9;refine hK.out _ _ (Hn.out _ h9.low h9.a.c0) (fun qh=> ?_);clear hK K;try simp only [zP]
      refine zD ?_;have Gl:=hid h9;rw [Ga.out,Gb.out] at Gl;clear qh b7 Ha L1 L2 Hj l8 A8 O8 h8 h9 t0 tf Hp G7 Kb Kc Kp Ki Hn Gp Hc H5;go_wp2_with fail;go_roundw;case rel=>exact⟨j+1,q8,Gg,P8,Q8,Gn,Hw,by go_num,Gl⟩
      case measure=>simp [intOf];omega
     ·
      intro o ho G4 K hK;simp only [gZa,gZb,gZc,gZd] at ho;subst ho;go_simp;refine hK.out _ _ (Hn.out _ L2.low L2.a.c0) (fun qh=> ?_);clear hK K;try simp only [zP]
      have t0:=L2.n.c0;rw [H5] at t0;refine cZ 1 ?_;intro K hK;go_simp;refine hK.out _ _ (Hn.out _ L2.low L2.a.c0) (fun qh=> ?_);clear hK K;try simp only [zP]
      clear t0;rw [Gd.out] at Hj;refine cZ 9 ?_;intro K hK;refine wp_app2 _ _ _ _ rfl Hj (by rfl) (by rfl) rfl ?_;refine hK.out _ _ (Hn.out _ l8 A8.c0) (fun qh=> ?_);clear hK K;try simp only [zP]
      refine tZ 10 66 ?_;have t0:=O8.c0;have tf:=O8.f;rw [Gd.out] at t0;refine cZ 11 ?_;intro K hK;go_simp;have h9:=Gp.out;rw [Gd.out] at h9;refine hK.out _ _ (Hn.out _ h9.low h9.a.c0) (fun qh=> ?_);clear hK K;try simp only [zP]
      refine zD ?_;have Gl:=hid h9;rw [Ga.out,Gb.out] at Gl;clear qh b7 Ha L1 L2 Hj l8 A8 O8 h8 h9 t0 tf Hp G7 Kb Kc Kp Ki Hn Gp Hc H5;go_wp2_with fail;go_roundw;case rel=>exact⟨j+1,q8,Gg,P8,Q8,Gn,Hw,by go_num,Gl⟩
      case measure=>simp [intOf];omega
  ·obtain rfl:j=S.l.length:=by omega
   go_wp2_with fail;go_loopw [13] (fun i wr=>∃(k gD cD gN cN:Nat) (DP DQ NP NQ:Nat ->Nat) (Gn Li:Value),k<=P.length/\ i=.int .i64 k/\ Hid (CS w wr t1 t2 (.slice a S.l.length c) (.slice xa S.n d) gD cD (cDL P k) DP DQ Gn (cDR gn S.l P S.l.length k) gN cN (cNL gn S.l P S.l.length k) NP NQ Li (cNR S P k))) (fun i _=>P.length - (intOf i).toNat);case atStart=>exact⟨0,_,_,_,_,_,_,_,_,_,_,Nat.zero_le _,rfl,HS⟩
   case round=>
    clear HS a0;obtain⟨k,gD,cD,gN,cN,DP,DQ,NP,NQ,Gn,Li,hk,rfl,HS⟩:=hrel;have L4:P.length<=1:=Kj.out.2.2;by_cases Hq:k<P.length
    ·skip;have i1:(0:Int)<=(k:Int):=Int.natCast_nonneg _;have i2:(k:Int)<(P.length:Int):=by omega
     obtain⟨qb,qo,rfl,G9,Kr⟩:=(H2.out).resolve_left (by omega);obtain⟨Ly,pc,⟨c0,d0⟩,sg,c1,c2,c3,c4⟩:=Kr k Hq;have G3:gL P k∈P:=gL_mem.2 ⟨k,Hq,rfl⟩;have Gj:=Jp.out.pm _ G3;obtain⟨pb,po,rfl,G5,Gh⟩:=sg.resolve_left (by omega);have Gk:Hid (Rok (dtR (gL P k))):=hid (Jp.out.dot _ G3);have Ga:Hid (ins (cDR gn S.l P S.l.length k) (dtR (gL P k))=cDR gn S.l P S.l.length (k+1)):=hid (cDR_put Hq).symm;have Gb:Hid (ins (cNR S P k) (dtR (gL P k))=cNR S P (k+1)):=hid (cNR_put Hq).symm;have K5:Hid (insL (gL P k) (cDL P k)=cDL P (k+1)):=hid (cDL_put Hq).symm;have K6:Hid (insL (gL P k) (cNL gn S.l P S.l.length k)=cNL gn S.l P S.l.length (k+1)):=hid (cNL_put Hq).symm;obtain⟨y,hy⟩:∃y,gL P k=y:=⟨_,rfl⟩;rw [hy] at c0 c1 c2 c3 c4 d0 Gh Gj Gk Ga Gb K5 K6;obtain⟨yp,yf,yr,yq,yv⟩:=y;dsimp only [dtR] at c0 c1 c2 c3 c4 d0 Gh Gj Gk Ga Gb K5 K6;have H8:Hid (∀w',Below w.heap.size w w' ->(w'.cell? ⟨qb,qo+k*5,none⟩=some (.slice (some ⟨pb,po,none⟩) yp.length pc)/\ w'.cell? ⟨qb,qo+k*5+1,none⟩=some (.bool yf)/\ w'.cell? ⟨qb,qo+k*5+2,none⟩=some (.int .i64 yr)/\ w'.cell? ⟨qb,qo+k*5+3,none⟩=some (.int .i64 yq)/\ w'.cell? ⟨qb,qo+k*5+4,none⟩=some (.string yv))):=hid (fun w' b=>⟨(b.cell (p:=⟨qb,_,none⟩) G9).trans c0,(b.cell (p:=⟨qb,_,none⟩) G9).trans c1,(b.cell (p:=⟨qb,_,none⟩) G9).trans c2,(b.cell (p:=⟨qb,_,none⟩) G9).trans c3,(b.cell (p:=⟨qb,_,none⟩) G9).trans c4⟩);have Ko:Hid (∀w',Below w.heap.size w w' ->pb<w'.heap.size/\∀t,t<yp.length ->w'.cell? ⟨pb,po+t,none⟩=some (.string (gS yp t))):=hid (fun w' b=>⟨Nat.lt_of_lt_of_le G5 b.size,fun t ht=>(b.cell (p:=⟨pb,po+t,none⟩) G5).trans (Gh t ht)⟩);have Gx:=hid Gj;obtain⟨w5,Gi⟩:∃w5,wr.alloc (.cells #[.int .i64 yr,.int .i64 yq] 58)=w5:=⟨_,rfl⟩;have b5:Below wr.heap.size wr w5:=by rw [<- Gi];exact zO _ _
     have X5:Bx2 w5 wr.heap.size (.int .i64 yr) (.int .i64 yq):=by rw [<- Gi];exact Bx2.made _ _ _ _
     have Hc:=hid (HS.out.below b5);have Jr:=hid X5;have Ln:Hid (t1≠wr.heap.size/\ t2≠wr.heap.size):=hid ⟨by have:=HS.out.d.lt;omega,by have:=HS.out.n.lt;omega⟩;have m2:=(H8.out wr HS.out.low).2.2.1;have m3:=(H8.out wr HS.out.low).2.2.2.1;have x0:=X5.c0;have x1:=X5.c1;clear hy Kr sg Gh G5 G9 b5 X5 d0 Gj HS c0 c1 c2 c3 c4 G3;obtain⟨Lt,Lr,Kz,Kv,_,_⟩:=Hc.out.fd.fs;subst Kz;have Gq:=hid (specIns Lt Lr (cDR gn S.l P S.l.length k) yr yq yq w5 (by have:=(Hz.out S.l.length k).2;omega) Kv (Hz.out S.l.length k).1 Gk.out);have d1:=Hc.out.d.c1;obtain⟨L7,G1⟩:∃ln,((cDR gn S.l P S.l.length k)).length=ln:=⟨_,rfl⟩;rw [G1] at Gq d1;clear Kv;go_wp2_with fail;refine Gq.out.mono ?_;rintro e w6 ⟨v6,rfl,Gz,b6⟩;obtain⟨vy,vm,vc,rfl⟩:=row_form Gz;have D6:=Hc.out.d.below b6 Hc.out.d.lt;have o1:=D6.c1;have of:=D6.f;rw [G1] at o1;have H4:=hid (Hc.out.setD1 b6 Gz);rw [Ga.out] at H4;have X6:=(Jr.out.below b6 Jr.out.lt).setAt ⟨t1,1,none⟩ (.slice vy vm vc) Ln.out.1;obtain⟨wb,Lg⟩:∃wb,w6.setCell ⟨t1,1,none⟩ (.slice vy vm vc)=wb:=⟨_,rfl⟩;rw [Lg] at H4 X6;have Lp:=hid X6;clear x0 x1 m2 m3 d1 Gi Gz b6 D6 Gq G1 Hc Jr;have x0:=X6.c0;have x1:=X6.c1;clear X6;obtain⟨Lu,Ls,Jv,Kw,_,_⟩:=H4.out.fn.fs;subst Jv;have Gr:=hid (specIns Lu Ls (cNR S P k) yr yq yq wb (by have:=(Go.out k).2;omega) Kw (Go.out k).1 Gk.out);have d2:=H4.out.n.c1;obtain⟨L8,G2⟩:∃ln,((cNR S P k)).length=ln:=⟨_,rfl⟩;rw [G2] at Gr d2;clear Kw;go_wp2_with fail;clear o1 of;refine Gr.out.mono ?_;rintro e Lz ⟨v7,rfl,Jt,b7⟩;obtain⟨uy,um,uc,rfl⟩:=row_form Jt;have D7:=H4.out.n.below b7 H4.out.n.lt;have o1:=D7.c1;have of:=D7.f;rw [G2] at o1;have He:=hid (H4.out.setN1 b7 Jt);rw [Gb.out] at He;obtain⟨wc,Jw⟩:∃wc,Lz.setCell ⟨t2,1,none⟩ (.slice uy um uc)=wc:=⟨_,rfl⟩;rw [Jw] at He;clear Lg x0 x1 d2 Jt b7 D7 Gr G2 H4 Lp;have Hi:Hid (∀w',Below w.heap.size w w' ->(Below w.heap.size w w'/\ w'.cell? ⟨qb,qo+k*5,none⟩=some (.slice (some ⟨pb,po,none⟩) yp.length pc)/\ w'.cell? ⟨qb,qo+k*5+1,none⟩=some (.bool yf)/\ w'.cell? ⟨qb,qo+k*5+2,none⟩=some (.int .i64 yr)/\ w'.cell? ⟨qb,qo+k*5+3,none⟩=some (.int .i64 yq)/\ w'.cell? ⟨qb,qo+k*5+4,none⟩=some (.string yv))):=hid (fun w' b=>⟨b,H8.out w' b⟩);have Gs:Hid (∀w',Below wc.heap.size wc w' ->Calls Tryz.prog 49 #[.agg #[.slice (some ⟨pb,po,none⟩) yp.length pc,.bool yf,.int .i64 yr,.int .i64 yq,.string yv]] w' fun e w''=>∃q cap,e=.returned (.agg #[.slice (some ⟨q,0,none⟩) yp.length cap,.bool yf,.int .i64 yr,.int .i64 yq,.string yv])/\ Below w'.heap.size w' w''/\ w'.heap.size<=q/\ q<w''.heap.size/\ Wr w'' q 9 yp.length (fun t=> .string (gS yp t))/\ yp.length<=cap/\ cap<=9223372036854775807):=hid (fun w' b=>by
      have hq:=Ko.out w' (keepS He.out.low b);exact l3LeafB pb po yp.length pc ⟨yp,yf,yr,yq,yv⟩ w' rfl (by have:=Gx.out.2;omega) hq.1 hq.2)
     obtain⟨Ka,Hs⟩:∃ln,(cDL P k).length=ln:=⟨_,rfl⟩;have Gu:Hid (∀w7 q cap,Below wc.heap.size wc w7 ->wc.heap.size<=q ->q<w7.heap.size ->Wr w7 q 9 yp.length (fun t=> .string (gS yp t)) ->(yp.length<=cap/\ cap<=9223372036854775807) ->Calls Tryz.prog 50 #[.slice (some ⟨gD,0,none⟩) Ka cD,.agg #[.slice (some ⟨q,0,none⟩) yp.length cap,.bool yf,.int .i64 yr,.int .i64 yq,.string yv]] w7 fun e w'=>(∃g' cap' P' Q',e=.returned (.slice (some ⟨g',0,none⟩) (Ka+1) cap')/\ w7.heap.size<=g'/\ LC w' (w.heap.size+3) (.slice (some ⟨g',0,none⟩) (Ka+1) cap') (cDL P (k+1)) P' Q')/\ Below w7.heap.size w7 w'):=hid (fun w7 q cap b7 hq1 hq2 hw hcap=>by
      have hJ:=He.out.below b7;have Lv:=He.out.r2.lt;have Lw:=b7.size;rw [<- K5.out,<- Hs];exact l3PutC gD cD (cDL P k) DP DQ w7 (w.heap.size+3) q cap yp yf yr yq yv hJ.ld (by omega) (by have:=(H9.out k).1;omega) (fun i hi=>by have:=((H9.out k).2 i hi).2;omega) (by have:=Gx.out.2;omega) ⟨by omega,hq2⟩ hw hcap)
     have Gt:Hid (Ka+1=(cDL P (k+1)).length):=hid (by rw [<- K5.out,insL_len,Hs]);go_wp2_with fail;try rw [Jw]
     clear Jw o1 of;apply cutC
     ·intro Lh;refine zR (S:=fun w'=>Below w.heap.size w w'/\ w'.cell? ⟨qb,qo+k*5,none⟩=some (.slice (some ⟨pb,po,none⟩) yp.length pc)/\ w'.cell? ⟨qb,qo+k*5+1,none⟩=some (.bool yf)/\ w'.cell? ⟨qb,qo+k*5+2,none⟩=some (.int .i64 yr)/\ w'.cell? ⟨qb,qo+k*5+3,none⟩=some (.int .i64 yq)/\ w'.cell? ⟨qb,qo+k*5+4,none⟩=some (.string yv)) (Hi.out _ He.out.low.drew) (fun qh=> ?_);refine tZ 0 104 ?_;refine tZ 2 106 ?_;refine tZ 3 107 ?_;refine tZ 4 108 ?_;refine tZ 5 109 ?_;refine ready2t (i:=1) (j:=6) (d:=some 105) (d':=some 110) (by kernel_rfl) (by kernel_rfl) (by kernel_rfl) ?_ ?_
      ·
       have t0:=(He.out.d.below zI.drew He.out.d.lt).c0;rw [Hs] at t0;intro o ho G4 K hK;simp only [gZa,gZb,gZc,gZd] at ho;subst ho;go_simp;refine hK.out _ _ (Hi.out _ He.out.low.drew) (fun qh=> ?_);clear hK K;try simp only [zP]
       clear t0;refine cZ 6 ?_;intro K hK;go_simp;refine(Gs.out _ zI.drew).mono ?_;rintro e w7 ⟨q7,Hm,rfl,b7,Hg,Hh,Hp,Hb⟩;have Ha:Below wc.heap.size wc w7:=⟨b7.os,b7.tape,b7.output,b7.size,b7.block⟩;refine hK.out _ _ (Hi.out _ (keepS He.out.low Ha)) (fun qh=> ?_);clear hK K;try simp only [zP]
       have H7:=hid (Gu.out w7 q7 Hm Ha Hg Hh Hp Hb);clear Hp Hb Hg Hh;refine cZ 7 ?_;intro K hK;go_simp;refine H7.out.mono ?_;rintro e w8 ⟨⟨g8,c8,P8,Q8,rfl,G8,l8⟩,b8⟩;have Ho:=keepS Ha b8;have Ht:=hid (He.out.setD0 Ho l8 Gt.out (by have:=Ha.size;omega) (fun i hi=>((H9.out (k+1)).2 i hi).1));have O8:=He.out.d.below Ho He.out.d.lt;refine hK.out _ _ (Hi.out _ (keepS He.out.low Ho)) (fun qh=> ?_);clear hK K;try simp only [zP]
       refine tZ 8 112 ?_;have o0:=O8.c0;have of:=O8.f 0;rw [Hs] at o0;clear O8;refine cZ 9 ?_;intro K hK;go_simp;clear qh;refine hK.out _ _ (Hi.out _ Ht.out.low) (fun qh=> ?_);clear hK K;try simp only [zP]
       refine zD ?_;obtain⟨wz,Jf⟩:∃wz,w8.setCell ⟨t1,0,none⟩ (.slice (some ⟨g8,0,none⟩) (Ka+1) c8)=wz:=⟨_,rfl⟩;rw [Jf] at Ht ⊢;clear qh Jf b7 Ha b8 Ho l8 G8 o0 of H7;revert Ht;revert wz;revert Q8;revert P8;revert c8;revert g8;revert Hm;revert q7;exact Lh.out
      ·
       intro o ho G4 K hK;simp only [gZa,gZb,gZc,gZd] at ho;subst ho;go_simp;refine(Gs.out _ zI.drew).mono ?_;rintro e w7 ⟨q7,Hm,rfl,b7,Hg,Hh,Hp,Hb⟩;have Ha:Below wc.heap.size wc w7:=⟨b7.os,b7.tape,b7.output,b7.size,b7.block⟩;refine hK.out _ _ (Hi.out _ (keepS He.out.low Ha)) (fun qh=> ?_);clear hK K;try simp only [zP]
       have t0:=(He.out.d.below Ha He.out.d.lt).c0;rw [Hs] at t0;refine cZ 1 ?_;intro K hK;go_simp;refine hK.out _ _ (Hi.out _ (keepS He.out.low Ha)) (fun qh=> ?_);clear hK K;try simp only [zP]
       clear t0;have H7:=hid (Gu.out w7 q7 Hm Ha Hg Hh Hp Hb);clear Hp Hb Hg Hh;refine cZ 7 ?_;intro K hK;go_simp;refine H7.out.mono ?_;rintro e w8 ⟨⟨g8,c8,P8,Q8,rfl,G8,l8⟩,b8⟩;have Ho:=keepS Ha b8;have Ht:=hid (He.out.setD0 Ho l8 Gt.out (by have:=Ha.size;omega) (fun i hi=>((H9.out (k+1)).2 i hi).1));have O8:=He.out.d.below Ho He.out.d.lt;refine hK.out _ _ (Hi.out _ (keepS He.out.low Ho)) (fun qh=> ?_);clear hK K;try simp only [zP]
       refine tZ 8 112 ?_;have o0:=O8.c0;have of:=O8.f 0;rw [Hs] at o0;clear O8;refine cZ 9 ?_;intro K hK;go_simp;clear qh;refine hK.out _ _ (Hi.out _ Ht.out.low) (fun qh=> ?_);clear hK K;try simp only [zP]
       refine zD ?_;obtain⟨wz,Jf⟩:∃wz,w8.setCell ⟨t1,0,none⟩ (.slice (some ⟨g8,0,none⟩) (Ka+1) c8)=wz:=⟨_,rfl⟩;rw [Jf] at Ht ⊢;exact Lh.out q7 Hm g8 c8 P8 Q8 wz Ht
     intro q3 Lq g3 c3 P3 Q3 wd Hk;clear He Hi Gs Gu Hs Gt;have Hf:Hid (∀w',Below w.heap.size w w' ->(Below w.heap.size w w'/\ w'.cell? ⟨qb,qo+k*5,none⟩=some (.slice (some ⟨pb,po,none⟩) yp.length pc)/\ w'.cell? ⟨qb,qo+k*5+1,none⟩=some (.bool yf)/\ w'.cell? ⟨qb,qo+k*5+2,none⟩=some (.int .i64 yr)/\ w'.cell? ⟨qb,qo+k*5+3,none⟩=some (.int .i64 yq)/\ w'.cell? ⟨qb,qo+k*5+4,none⟩=some (.string yv))):=hid (fun w' b=>⟨b,H8.out w' b⟩);have Gc:Hid (∀w',Below wd.heap.size wd w' ->Calls Tryz.prog 49 #[.agg #[.slice (some ⟨pb,po,none⟩) yp.length pc,.bool yf,.int .i64 yr,.int .i64 yq,.string yv]] w' fun e w''=>∃q cap,e=.returned (.agg #[.slice (some ⟨q,0,none⟩) yp.length cap,.bool yf,.int .i64 yr,.int .i64 yq,.string yv])/\ Below w'.heap.size w' w''/\ w'.heap.size<=q/\ q<w''.heap.size/\ Wr w'' q 9 yp.length (fun t=> .string (gS yp t))/\ yp.length<=cap/\ cap<=9223372036854775807):=hid (fun w' b=>by
      have hq:=Ko.out w' (keepS Hk.out.low b);exact l3LeafB pb po yp.length pc ⟨yp,yf,yr,yq,yv⟩ w' rfl (by have:=Gx.out.2;omega) hq.1 hq.2)
     obtain⟨Jg,Hu⟩:∃ln,(cNL gn S.l P S.l.length k).length=ln:=⟨_,rfl⟩;have Ge:Hid (∀w7 q cap,Below wd.heap.size wd w7 ->wd.heap.size<=q ->q<w7.heap.size ->Wr w7 q 9 yp.length (fun t=> .string (gS yp t)) ->(yp.length<=cap/\ cap<=9223372036854775807) ->Calls Tryz.prog 50 #[.slice (some ⟨gN,0,none⟩) Jg cN,.agg #[.slice (some ⟨q,0,none⟩) yp.length cap,.bool yf,.int .i64 yr,.int .i64 yq,.string yv]] w7 fun e w'=>(∃g' cap' P' Q',e=.returned (.slice (some ⟨g',0,none⟩) (Jg+1) cap')/\ w7.heap.size<=g'/\ LC w' (w.heap.size+3) (.slice (some ⟨g',0,none⟩) (Jg+1) cap') (cNL gn S.l P S.l.length (k+1)) P' Q')/\ Below w7.heap.size w7 w'):=hid (fun w7 q cap b7 hq1 hq2 hw hcap=>by
      have hJ:=Hk.out.below b7;have Lv:=Hk.out.r2.lt;have Lw:=b7.size;rw [<- K6.out,<- Hu];exact l3PutC gN cN (cNL gn S.l P S.l.length k) NP NQ w7 (w.heap.size+3) q cap yp yf yr yq yv hJ.ln (by omega) (by have:=(Hr.out S.l.length k).1;omega) (fun i hi=>by have:=((Hr.out S.l.length k).2 i hi).2;omega) (by have:=Gx.out.2;omega) ⟨by omega,hq2⟩ hw hcap)
     have Km:Hid (Jg+1=(cNL gn S.l P S.l.length (k+1)).length):=hid (by rw [<- K6.out,insL_len,Hu]);go_wp2_with fail;refine zR (S:=fun w'=>Below w.heap.size w w'/\ w'.cell? ⟨qb,qo+k*5,none⟩=some (.slice (some ⟨pb,po,none⟩) yp.length pc)/\ w'.cell? ⟨qb,qo+k*5+1,none⟩=some (.bool yf)/\ w'.cell? ⟨qb,qo+k*5+2,none⟩=some (.int .i64 yr)/\ w'.cell? ⟨qb,qo+k*5+3,none⟩=some (.int .i64 yq)/\ w'.cell? ⟨qb,qo+k*5+4,none⟩=some (.string yv)) (Hf.out _ Hk.out.low.drew) (fun qh=> ?_);refine tZ 0 113 ?_;refine tZ 2 115 ?_;refine tZ 3 116 ?_;refine tZ 4 117 ?_;refine tZ 5 118 ?_;refine ready2t (i:=1) (j:=6) (d:=some 114) (d':=some 119) (by kernel_rfl) (by kernel_rfl) (by kernel_rfl) ?_ ?_
     ·
      have t0:=(Hk.out.n.below zI.drew Hk.out.n.lt).c0;rw [Hu] at t0;intro o ho G4 K hK;simp only [gZa,gZb,gZc,gZd] at ho;subst ho;go_simp;refine hK.out _ _ (Hf.out _ Hk.out.low.drew) (fun qh=> ?_);clear hK K;try simp only [zP]
      clear t0;refine cZ 6 ?_;intro K hK;go_simp;refine(Gc.out _ zI.drew).mono ?_;rintro e w7 ⟨q7,Hm,rfl,b7,Hg,Hh,Hp,Hb⟩;have Ha:Below wd.heap.size wd w7:=⟨b7.os,b7.tape,b7.output,b7.size,b7.block⟩;refine hK.out _ _ (Hf.out _ (keepS Hk.out.low Ha)) (fun qh=> ?_);clear hK K;try simp only [zP]
      have H7:=hid (Ge.out w7 q7 Hm Ha Hg Hh Hp Hb);clear Hp Hb Hg Hh;refine cZ 7 ?_;intro K hK;go_simp;refine H7.out.mono ?_;rintro e w8 ⟨⟨g8,c8,P8,Q8,rfl,G8,l8⟩,b8⟩;have Ho:=keepS Ha b8;have Ht:=hid (Hk.out.setN0 Ho l8 Km.out (by have:=Ha.size;omega) (fun i hi=>((Hr.out S.l.length (k+1)).2 i hi).1));have O8:=Hk.out.n.below Ho Hk.out.n.lt;refine hK.out _ _ (Hf.out _ (keepS Hk.out.low Ho)) (fun qh=> ?_);clear hK K;try simp only [zP]
      refine tZ 8 121 ?_;have o0:=O8.c0;have of:=O8.f 0;rw [Hu] at o0;clear O8;refine cZ 9 ?_;intro K hK;go_simp;clear qh;refine hK.out _ _ (Hf.out _ Ht.out.low) (fun qh=> ?_);clear hK K;try simp only [zP]
      refine zD ?_;clear qh b7 Ha b8 Ho l8 G8 o0 of H7 Ge Gc Hf;go_wp2_with fail;go_roundw;case rel=>exact⟨k+1,g3,c3,g8,c8,P3,Q3,P8,Q8,_,_,Hq,by go_num,Ht⟩
      case measure=>simp [intOf];omega
     ·
      intro o ho G4 K hK;simp only [gZa,gZb,gZc,gZd] at ho;subst ho;go_simp;refine(Gc.out _ zI.drew).mono ?_;rintro e w7 ⟨q7,Hm,rfl,b7,Hg,Hh,Hp,Hb⟩;have Ha:Below wd.heap.size wd w7:=⟨b7.os,b7.tape,b7.output,b7.size,b7.block⟩;refine hK.out _ _ (Hf.out _ (keepS Hk.out.low Ha)) (fun qh=> ?_);clear hK K;try simp only [zP]
      have t0:=(Hk.out.n.below Ha Hk.out.n.lt).c0;rw [Hu] at t0;refine cZ 1 ?_;intro K hK;go_simp;refine hK.out _ _ (Hf.out _ (keepS Hk.out.low Ha)) (fun qh=> ?_);clear hK K;try simp only [zP]
      clear t0;have H7:=hid (Ge.out w7 q7 Hm Ha Hg Hh Hp Hb);clear Hp Hb Hg Hh;refine cZ 7 ?_;intro K hK;go_simp;refine H7.out.mono ?_;rintro e w8 ⟨⟨g8,c8,P8,Q8,rfl,G8,l8⟩,b8⟩;have Ho:=keepS Ha b8;have Ht:=hid (Hk.out.setN0 Ho l8 Km.out (by have:=Ha.size;omega) (fun i hi=>((Hr.out S.l.length (k+1)).2 i hi).1));have O8:=Hk.out.n.below Ho Hk.out.n.lt;refine hK.out _ _ (Hf.out _ (keepS Hk.out.low Ho)) (fun qh=> ?_);clear hK K;try simp only [zP]
      refine tZ 8 121 ?_;have o0:=O8.c0;have of:=O8.f 0;rw [Hu] at o0;clear O8;refine cZ 9 ?_;intro K hK;go_simp;clear qh;refine hK.out _ _ (Hf.out _ Ht.out.low) (fun qh=> ?_);clear hK K;try simp only [zP]
      refine zD ?_;clear qh b7 Ha b8 Ho l8 G8 o0 of H7 Ge Gc Hf;go_wp2_with fail;go_roundw;case rel=>exact⟨k+1,g3,c3,g8,c8,P3,Q3,P8,Q8,_,_,Hq,by go_num,Ht⟩
      case measure=>simp [intOf];omega
    ·obtain rfl:k=P.length:=by omega
     have e1:=HS.out.ld;have e2:=HS.out.ln;obtain⟨Hx,H6,Kz,_⟩:=HS.out.fd.fs;subst Kz;obtain⟨Hv,Hy,Jv,_⟩:=HS.out.fn.fs;subst Jv;have J1:Hid (SNc wr (w.heap.size+3) (some ⟨gD,0,none⟩) Hx (mkS (cDL P P.length) (cDR gn S.l P S.l.length P.length))):=hid (mk_at HS.out.ld HS.out.fd);have J2:Hid (SNc wr (w.heap.size+3) (some ⟨gN,0,none⟩) Hv (mkS (cNL gn S.l P S.l.length P.length) (cNR S P P.length))):=hid (mk_at HS.out.ln HS.out.fn);rw [cDL_end Kj.out.2.2,cDR_end] at J1;rw [cNL_end,cNR_end] at J2;have K4:Hid (dlS gn S.l P=mkS P (dlU gn S.l P)/\ jnS S (dlS gn S.l P)=mkS (nxL gn S.l P) (nxU S P)):=hid ⟨rfl,chg_s Jc.out Jp.out⟩;have D1:=HS.out.d;have N1:=HS.out.n;rw [cDL_end Kj.out.2.2,cDR_end] at D1;rw [cNL_end,cNR_end] at N1;obtain⟨d1,Kt⟩:∃d1,P.length=d1:=⟨_,rfl⟩;obtain⟨d2,Ku⟩:∃d2,(dlU gn S.l P).length=d2:=⟨_,rfl⟩;obtain⟨n1,Kx⟩:∃n1,(nxL gn S.l P).length=n1:=⟨_,rfl⟩;obtain⟨n2,Ky⟩:∃n2,(nxU S P).length=n2:=⟨_,rfl⟩;have K2:Hid (d1<=1/\ d2<=1001/\ n1<=1001/\ n2<=1001):=hid (by
      refine⟨by rw [<- Kt];exact Kj.out.2.2,?_,?_,?_⟩
      ·rw [<- Ku,<- cDR_end];exact(Hz.out _ _).2
      ·rw [<- Kx,<- cNL_end];exact(Hr.out _ _).1
      ·rw [<- Ky,<- cNR_end];exact(Go.out _).2)
     have Ke:Hid (chF S (dlS gn S.l P)=((decide (n1<=1000) && decide (n2<=1000)) && (decide (d1<=1000) && decide (d2<=1000)))):=hid (by
      unfold chF jnF;rw [K4.out.2,K4.out.1,<- Kx,<- Ky,<- Kt,<- Ku];rfl)
     rw [Kt,Ku] at D1;rw [Kx,Ky] at N1;have Lm:=hid (And.intro Kt (And.intro Ku (And.intro Kx Ky)));have Jl:=hid (l3FitsC (some ⟨gD,0,none⟩) Hx d1 d2 cD H6 wr (by have:=K2.out;omega) (by have:=K2.out;omega));have J0:=hid (fun w3=>l3FitsC (some ⟨gN,0,none⟩) Hv n1 n2 cN Hy w3 (by have:=K2.out;omega) (by have:=K2.out;omega));have Jz:=hid D1;have K8:=hid N1;have Kl:=hid HS.out.low;have Ja:=hid HS.out.r1;have Jb:=hid HS.out.r2;have Lo:Hid (w.heap.size+3<=t1/\ w.heap.size+3<=t2/\ t1≠t2):=hid ⟨HS.out.h1,HS.out.h2,HS.out.h12⟩;obtain⟨B1,J9⟩:∃B1,(decide (d1<=1000) && decide (d2<=1000))=B1:=⟨_,rfl⟩;obtain⟨B2,Js⟩:∃B2,(decide (n1<=1000) && decide (n2<=1000))=B2:=⟨_,rfl⟩;rw [J9] at Jl Ke;rw [Js] at Ke;have Kf:Hid (∀w3,Calls Tryz.prog 51 #[.agg #[.slice (some ⟨gN,0,none⟩) n1 cN,.slice Hv n2 Hy]] w3 fun e w'=>e=.returned (.bool B2)/\ Below w3.heap.size w3 w'):=hid (fun w3=>by rw [<- Js];exact J0.out w3);have x0:=D1.c0;have x1:=D1.c1;clear J9 Js J0 D1 N1 HS e1 e2 Kt Ku Kx Ky;go_wp2_with fail;refine Jl.out.mono ?_;rintro e w3 ⟨rfl,b3⟩;clear x0 x1 Jl;cases B1 with
     | false=>
      have HZ:Hid (X=Sx.mt/\ Y=Sx.mt/\ CC=4):=hid (by
       have e:chF S (dlS gn S.l P)=false:=by rw [Ke.out];simp
       obtain⟨z1,z2,z3⟩:=ch_f e;exact⟨Hl.out.1.symm.trans z1,Hl.out.2.1.symm.trans z2,Hl.out.2.2.symm.trans z3⟩)
      have K1:=hid (keepS Kl.out b3);have Hd:=hid (Ja.out.below b3 Ja.out.lt);have H3:=hid (Jb.out.below b3 Jb.out.lt);clear b3;have r0:=Hd.out.c0;have r1:=Hd.out.c1;have rf:=Hd.out.f;have Jj:=hid (Hd.out.set (.slice none 0 0) (.slice none 0 0));have Q3:=(H3.out.setAt ⟨w.heap.size+1,0,none⟩ (.slice none 0 0) (by show w.heap.size+1≠w.heap.size+1+1;omega)).setAt ⟨w.heap.size+1,1,none⟩ (.slice none 0 0) (by show w.heap.size+1≠w.heap.size+1+1;omega);have q0:=Q3.c0;have q1:=Q3.c1;have qf:=Q3.f;have Kn:=hid (Q3.set (.slice none 0 0) (.slice none 0 0));have Kd:=hid ((Jj.out.setAt ⟨w.heap.size+1+1,0,none⟩ (.slice none 0 0) (by show w.heap.size+1+1≠w.heap.size+1;omega)).setAt ⟨w.heap.size+1+1,1,none⟩ (.slice none 0 0) (by show w.heap.size+1+1≠w.heap.size+1;omega));clear Q3;go_wp2_with fail;have s0:=Kd.out.c0;have s1:=Kd.out.c1;have s2:=Kn.out.c0;have s3:=Kn.out.c1;refine zF (v:=.tuple #[.agg #[.slice none 0 0,.slice none 0 0],.agg #[.slice none 0 0,.slice none 0 0],.int .i64 4]) (by simp [results,Tryz.results27,go_sem,s0,s1,s2,s3]) ⟨none,0,none,0,none,0,none,0,by rw [HZ.out.1,HZ.out.2.1,HZ.out.2.2];rfl,?_,?_,?_⟩
      ·rw [HZ.out.1];exact SNc.mt _ _ _ _
      ·rw [HZ.out.2.1];exact SNc.mt _ _ _ _
      ·exact(((K1.out.setCell (by simp) _).setCell (by simp) _).setCell (by simp;omega) _).setCell (by simp;omega) _
     | true=>
      have N3:=K8.out.below b3 K8.out.lt;have x0:=N3.c0;have x1:=N3.c1;have Lj:=hid b3;clear b3 N3;go_wp2_with fail;refine(Kf.out w3).mono ?_;rintro e w4 ⟨rfl,b4⟩;have Gm:=keepS Lj.out b4;have K1:=hid (keepS Kl.out Gm);have Hd:=hid (Ja.out.below Gm Ja.out.lt);have H3:=hid (Jb.out.below Gm Jb.out.lt);have K3:=hid (Jz.out.below Gm Jz.out.lt);have K9:=hid (K8.out.below Gm K8.out.lt);have Jn:=hid (J1.out.below Gm);have Jo:=hid (J2.out.below Gm);clear b4 Gm x0 x1 Kf;cases B2 with
      | false=>
       have HZ:Hid (X=Sx.mt/\ Y=Sx.mt/\ CC=4):=hid (by
        have e:chF S (dlS gn S.l P)=false:=by rw [Ke.out];simp
        obtain⟨z1,z2,z3⟩:=ch_f e;exact⟨Hl.out.1.symm.trans z1,Hl.out.2.1.symm.trans z2,Hl.out.2.2.symm.trans z3⟩)
       have r0:=Hd.out.c0;have r1:=Hd.out.c1;have rf:=Hd.out.f;have Jj:=hid (Hd.out.set (.slice none 0 0) (.slice none 0 0));have Q3:=(H3.out.setAt ⟨w.heap.size+1,0,none⟩ (.slice none 0 0) (by show w.heap.size+1≠w.heap.size+1+1;omega)).setAt ⟨w.heap.size+1,1,none⟩ (.slice none 0 0) (by show w.heap.size+1≠w.heap.size+1+1;omega);have q0:=Q3.c0;have q1:=Q3.c1;have qf:=Q3.f;have Kn:=hid (Q3.set (.slice none 0 0) (.slice none 0 0));have Kd:=hid ((Jj.out.setAt ⟨w.heap.size+1+1,0,none⟩ (.slice none 0 0) (by show w.heap.size+1+1≠w.heap.size+1;omega)).setAt ⟨w.heap.size+1+1,1,none⟩ (.slice none 0 0) (by show w.heap.size+1+1≠w.heap.size+1;omega));clear Q3;go_wp2_with fail;have s0:=Kd.out.c0;have s1:=Kd.out.c1;have s2:=Kn.out.c0;have s3:=Kn.out.c1;refine zF (v:=.tuple #[.agg #[.slice none 0 0,.slice none 0 0],.agg #[.slice none 0 0,.slice none 0 0],.int .i64 4]) (by simp [results,Tryz.results27,go_sem,s0,s1,s2,s3]) ⟨none,0,none,0,none,0,none,0,by rw [HZ.out.1,HZ.out.2.1,HZ.out.2.2];rfl,?_,?_,?_⟩
       ·rw [HZ.out.1];exact SNc.mt _ _ _ _
       ·rw [HZ.out.2.1];exact SNc.mt _ _ _ _
       ·exact(((K1.out.setCell (by simp) _).setCell (by simp) _).setCell (by simp;omega) _).setCell (by simp;omega) _
      | true=>
       have HZ:Hid (X=mkS (nxL gn S.l P) (nxU S P)/\ Y=mkS P (dlU gn S.l P)/\ CC=0):=hid (by
        have e:chF S (dlS gn S.l P)=true:=by rw [Ke.out];rfl
        obtain⟨z1,z2,z3⟩:=ch_t e;exact⟨Hl.out.1.symm.trans (z1.trans K4.out.2),Hl.out.2.1.symm.trans (z2.trans K4.out.1),Hl.out.2.2.symm.trans z3⟩)
       have Jd:Hid (∀w',Bx2 w' t1 (.slice (some ⟨gD,0,none⟩) d1 cD) (.slice Hx d2 H6) ->Bx2 w' t2 (.slice (some ⟨gN,0,none⟩) n1 cN) (.slice Hv n2 Hy) ->(w'.cell? ⟨t1,0,none⟩=some (.slice (some ⟨gD,0,none⟩) d1 cD)/\ w'.cell? ⟨t1,1,none⟩=some (.slice Hx d2 H6)/\ w'.cell? ⟨t2,0,none⟩=some (.slice (some ⟨gN,0,none⟩) n1 cN)/\ w'.cell? ⟨t2,1,none⟩=some (.slice Hv n2 Hy))):=hid (fun w' h1 h2=>⟨h1.c0,h1.c1,h2.c0,h2.c1⟩);go_wp2_with fail;refine zR (S:=fun w'=>w'.cell? ⟨t1,0,none⟩=some (.slice (some ⟨gD,0,none⟩) d1 cD)/\ w'.cell? ⟨t1,1,none⟩=some (.slice Hx d2 H6)/\ w'.cell? ⟨t2,0,none⟩=some (.slice (some ⟨gN,0,none⟩) n1 cN)/\ w'.cell? ⟨t2,1,none⟩=some (.slice Hv n2 Hy)) (Jd.out _ (K3.out.below zI.drew K3.out.lt) (K9.out.below zI.drew K9.out.lt)) (fun qh=> ?_);refine tZ 0 132 ?_;refine tZ 1 133 ?_;obtain⟨u0,Ju⟩:∃u0,w4.drew=u0:=⟨_,rfl⟩;have bu:Below w4.heap.size w4 u0:=by rw [<- Ju];exact zI.drew
       rw [Ju];clear Ju;have R1:=Hd.out.below bu Hd.out.lt;have R2:=H3.out.below bu H3.out.lt;have r0:=R1.c0;have r1:=R1.c1;have rf:=R1.f;have L5:=Lo.out;have DA:=((K3.out.below bu K3.out.lt).setAt ⟨w.heap.size+1,0,none⟩ (.slice (some ⟨gN,0,none⟩) n1 cN) (by show w.heap.size+1≠t1;omega)).setAt ⟨w.heap.size+1,1,none⟩ (.slice Hv n2 Hy) (by show w.heap.size+1≠t1;omega);have NA:=((K9.out.below bu K9.out.lt).setAt ⟨w.heap.size+1,0,none⟩ (.slice (some ⟨gN,0,none⟩) n1 cN) (by show w.heap.size+1≠t2;omega)).setAt ⟨w.heap.size+1,1,none⟩ (.slice Hv n2 Hy) (by show w.heap.size+1≠t2;omega);have RA:=R1.set (.slice (some ⟨gN,0,none⟩) n1 cN) (.slice Hv n2 Hy);have QA:=(R2.setAt ⟨w.heap.size+1,0,none⟩ (.slice (some ⟨gN,0,none⟩) n1 cN) (by show w.heap.size+1≠w.heap.size+1+1;omega)).setAt ⟨w.heap.size+1,1,none⟩ (.slice Hv n2 Hy) (by show w.heap.size+1≠w.heap.size+1+1;omega);have DB:=(DA.setAt ⟨w.heap.size+1+1,0,none⟩ (.slice (some ⟨gD,0,none⟩) d1 cD) (by show w.heap.size+1+1≠t1;omega)).setAt ⟨w.heap.size+1+1,1,none⟩ (.slice Hx d2 H6) (by show w.heap.size+1+1≠t1;omega);have NB:=(NA.setAt ⟨w.heap.size+1+1,0,none⟩ (.slice (some ⟨gD,0,none⟩) d1 cD) (by show w.heap.size+1+1≠t2;omega)).setAt ⟨w.heap.size+1+1,1,none⟩ (.slice Hx d2 H6) (by show w.heap.size+1+1≠t2;omega);have RB:=hid ((RA.setAt ⟨w.heap.size+1+1,0,none⟩ (.slice (some ⟨gD,0,none⟩) d1 cD) (by show w.heap.size+1+1≠w.heap.size+1;omega)).setAt ⟨w.heap.size+1+1,1,none⟩ (.slice Hx d2 H6) (by show w.heap.size+1+1≠w.heap.size+1;omega));have QB:=hid (QA.set (.slice (some ⟨gD,0,none⟩) d1 cD) (.slice Hx d2 H6));have Jq:=hid QA;clear R1 R2 RA QA;refine cZ 2 ?_;intro K hK;go_simp;refine hK.out _ _ (Jd.out _ DA NA) (fun qh=> ?_);clear hK K;try simp only [zP]
       clear r0 r1 rf;have r0:=Jq.out.c0;have r1:=Jq.out.c1;have rf:=Jq.out.f;refine cZ 3 ?_;intro K hK;go_simp;refine hK.out _ _ (Jd.out _ DB NB) (fun qh=> ?_);clear hK K;try simp only [zP]
       refine tZ 4 8 ?_;refine zD ?_;have Ji:=hid bu;clear qh r0 r1 rf DA NA DB NB bu Jd;go_wp2_with fail;have s0:=RB.out.c0;have s1:=RB.out.c1;have s2:=QB.out.c0;have s3:=QB.out.c1;refine zF (v:=.tuple #[.agg #[.slice (some ⟨gN,0,none⟩) n1 cN,.slice Hv n2 Hy],.agg #[.slice (some ⟨gD,0,none⟩) d1 cD,.slice Hx d2 H6],.int .i64 0]) (by simp [results,Tryz.results27,go_sem,s0,s1,s2,s3]) ?_;first|refine⟨some ⟨gN,0,none⟩,cN,Hv,Hy,some ⟨gD,0,none⟩,cD,Hx,⟨H6,?_⟩,?_,?_,?_⟩|refine⟨some ⟨gN,0,none⟩,cN,Hv,Hy,some ⟨gD,0,none⟩,cD,Hx,H6,?_,?_,?_,?_⟩
       ·obtain⟨z1,z2,z3⟩:=HZ.out;obtain⟨l1,l2,l3,l4⟩:=Lm.out;rw [z1,z2,z3];show _=Ending.returned (.tuple #[.agg #[.slice _ (nxL gn S.l P).length _,.slice _ (nxU S P).length _],.agg #[.slice _ P.length _,.slice _ (dlU gn S.l P).length _],_]);rw [l1,l2,l3,l4]
       ·rw [HZ.out.1];refine(Jo.out.below Ji.out).move (by omega) (by simp [World.setCell]) (fun q h1 h2=> ?_);rw [zH _ _ _ _ (by simp;omega),zH _ _ _ _ (by simp;omega),zH _ _ _ _ (by simp;omega),zH _ _ _ _ (by simp;omega)]
       ·rw [HZ.out.2.1];refine(Jn.out.below Ji.out).move (by omega) (by simp [World.setCell]) (fun q h1 h2=> ?_);rw [zH _ _ _ _ (by simp;omega),zH _ _ _ _ (by simp;omega),zH _ _ _ _ (by simp;omega),zH _ _ _ _ (by simp;omega)]
       ·exact((((keepS K1.out Ji.out).setCell (by simp) _).setCell (by simp) _).setCell (by simp;omega) _).setCell (by simp;omega) _
theorem underSpec (p q:List ByteArray)(a b:Option Addr)(c d:Nat)(w:World)(hc:p.length<=c)(hd:q.length<=d)(hc':c<=9223372036854775807)(hd':d<=9223372036854775807)(h:SSeg w a p)(h':SSeg w b q):
  Calls Tryz.prog 26 #[.slice a p.length c,.slice b q.length d] w fun e w'=>e=.returned (.bool (yes (p <+:q)))/\∃k,w'=w.drewN k:=by
 by_cases hl:p.length<=q.length
 ·have d0:decide ((p.length:Int)<=(q.length:Int))=true:=by simp;omega
  have d1:decide (p.length<=q.length)=true:=by simp;omega
  have Ha:(q.take p.length).length=p.length:=by simp;omega
  have hs:SSeg w b (q.take p.length):=by
   rcases h' with h'|⟨b,Hb,rfl,hb,hc⟩
   ·exact .inl (by omega)
   ·refine .inr ⟨b,Hb,rfl,hb,fun i hi=> ?_⟩;have e:gS (q.take p.length) i=gS q i:=by simp [gS,List.getD,List.getElem?_take_of_lt (show i<p.length by omega)]
    rw [e];exact hc i (by omega)
  have HC:=hid (cmpSpec p (q.take p.length) a b c d w hc (by omega) hc' hd' h hs);rw [Ha] at HC;have HE:Hid (cmpP p (q.take p.length)=0↔p <+:q):=hid (by rw [cmpP_z];exact⟨fun e=>by rw [e];exact List.take_prefix _ _,fun e=>List.prefix_iff_eq_take.1 e⟩);obtain⟨C,hC⟩:∃C,cmpP p (q.take p.length)=C:=⟨_,rfl⟩;rw [hC] at HC HE;have i0:(0:Int)<=(p.length:Int):=Int.natCast_nonneg _;have i1:(p.length:Int)<=(d:Int):=by omega
  clear h h' hs hC Ha;go_enter Tryz.func26,Tryz.ntmps26;go_wp2_with fail;refine HC.out.mono ?_;rintro e w1 ⟨rfl,dn,rfl⟩;clear HC;by_cases hz:C=0
  ·have d2:(C==0)=true:=by simpa using hz
   have HG:=hid (yes_t (HE.out.1 hz));clear hz HE;go_wp2_with fail;go_ret;exact⟨ret_b HG.out.symm,dn,rfl⟩
  ·have d2:(C==0)=false:=by simpa using hz
   have HG:=hid (yes_f (fun h=>hz (HE.out.2 h)));clear hz HE;go_wp2_with fail;go_ret;exact⟨ret_b HG.out.symm,dn,rfl⟩
 ·have d0:decide ((p.length:Int)<=(q.length:Int))=false:=by simp;omega
  have d1:decide (p.length<=q.length)=false:=by simp;omega
  have HG:Hid (yes (p <+:q)=false):=hid (yes_f (fun e=>hl e.length_le));go_enter Tryz.func26,Tryz.ntmps26;go_wp2_with fail;go_ret;exact⟨ret_b HG.out.symm,0,rfl⟩
structure SOw (w:World)(lo hi:Nat)(a x:Option Addr)(d:Nat)(S:Sx):Prop where
 nc:∀w':World,w.heap.size<=w'.heap.size ->(∀q,lo<=q ->q<hi ->w'.heap[q]? =w.heap[q]?) ->SCt w' a x S
 hl:lo<=hi/\ hi<=w.heap.size
theorem SOw.ct {w:World}{lo hi:Nat}{a x:Option Addr}{d:Nat}{S:Sx}(h:SOw w lo hi a x d S):SCt w a x S:=h.nc w zL (fun _ _ _=>rfl)
theorem SOw.same {w w':World}{lo hi:Nat}{a x:Option Addr}{d:Nat}{S:Sx}(h:SOw w lo hi a x d S)(hs:w.heap.size<=w'.heap.size)(hq:∀q,lo<=q ->q<hi ->w'.heap[q]? =w.heap[q]?):SOw w' lo hi a x d S:=
 ⟨fun w2 h1 h2=>h.nc w2 (Nat.le_trans hs h1) (fun q q1 q2=>(h2 q q1 q2).trans (hq q q1 q2)),h.hl.1,Nat.le_trans h.hl.2 hs⟩
theorem SOw.below {w w':World}{lo hi:Nat}{a x:Option Addr}{d:Nat}{S:Sx}(h:SOw w lo hi a x d S)(hb:Below w.heap.size w w'):SOw w' lo hi a x d S:=
 h.same hb.size (fun q _ h2=>hb.block q (Nat.lt_of_lt_of_le h2 h.hl.2))
theorem SOw.set {w:World}{lo hi:Nat}{a x:Option Addr}{d:Nat}{S:Sx}(h:SOw w lo hi a x d S)(q:Addr)(u:Value)(hq:q.block<lo \/hi<=q.block):SOw (w.setCell q u) lo hi a x d S:=
 h.same (by simp [World.setCell]) (fun p h1 h2=>zH _ _ _ _ (by omega))
theorem SOw.mt (w:World)(S:Sx)(hl:S.l.length=0)(hn:S.n=0)(lo hi:Nat)(h:lo<=hi/\ hi<=w.heap.size)(a x:Option Addr)(d:Nat):SOw w lo hi a x d S:=
 ⟨fun _ _ _=>⟨.inl hl,.inl hn⟩,h⟩
theorem SOw.wide {w:World}{lo hi lo' hi':Nat}{a x:Option Addr}{d:Nat}{S:Sx}(h:SOw w lo hi a x d S)(h1:lo'<=lo)(h2:hi<=hi')(h3:hi'<=w.heap.size):SOw w lo' hi' a x d S:=
 ⟨fun w2 k1 k2=>h.nc w2 k1 (fun q q1 q2=>k2 q (by omega) (by omega)),by have:=h.hl;omega,h3⟩
open Go.Maps
theorem twoB {w:World}{r1 r2:Nat}{u0 u1 u2 u3:Value}(h1:Bx2 w r1 u0 u1)(h2:Bx2 w r2 u2 u3)(hne:r1≠r2)(v0 v1 v2 v3:Value):Bx2 ((w.setCell ⟨r1,0,none⟩ v0).setCell ⟨r1,1,none⟩ v1) r2 u2 u3/\ Bx2 ((((w.setCell ⟨r1,0,none⟩ v0).setCell ⟨r1,1,none⟩ v1).setCell ⟨r2,0,none⟩ v2).setCell ⟨r2,1,none⟩ v3) r1 v0 v1/\ Bx2 ((((w.setCell ⟨r1,0,none⟩ v0).setCell ⟨r1,1,none⟩ v1).setCell ⟨r2,0,none⟩ v2).setCell ⟨r2,1,none⟩ v3) r2 v2 v3:=
 ⟨(h2.setAt _ _ hne).setAt _ _ hne,((h1.set v0 v1).setAt _ _ (Ne.symm hne)).setAt _ _ (Ne.symm hne),((h2.setAt _ _ hne).setAt _ _ hne).set v2 v3⟩
theorem below4 {w w1:World}{B r1 r2:Nat}(h:Below B w w1)(h1:B<=r1)(h2:B<=r2)(v0 v1 v2 v3:Value):Below B w ((((w1.setCell ⟨r1,0,none⟩ v0).setCell ⟨r1,1,none⟩ v1).setCell ⟨r2,0,none⟩ v2).setCell ⟨r2,1,none⟩ v3):=
 (((h.setCell (p:=⟨r1,0,none⟩) h1 _).setCell (p:=⟨r1,1,none⟩) h1 _).setCell (p:=⟨r2,0,none⟩) h2 _).setCell (p:=⟨r2,1,none⟩) h2 _
theorem size4 {w:World}{a b c d:Addr}{v0 v1 v2 v3:Value}:((((w.setCell a v0).setCell b v1).setCell c v2).setCell d v3).heap.size=w.heap.size:=by simp [World.setCell]
theorem snc4 {w:World}{lo lo' r1 r2:Nat}{a x:Option Addr}{Z:Sx}(h:SNc w lo a x Z)(hl:lo'<=lo)(h1:r1<lo)(h2:r2<lo)(v0 v1 v2 v3:Value):SNc ((((w.setCell ⟨r1,0,none⟩ v0).setCell ⟨r1,1,none⟩ v1).setCell ⟨r2,0,none⟩ v2).setCell ⟨r2,1,none⟩ v3) lo' a x Z:=
 h.move hl (by simp [World.setCell]) (fun q k1 k2=>by
  rw [zH _ _ _ _ (by simp;omega),zH _ _ _ _ (by simp;omega),zH _ _ _ _ (by simp;omega),zH _ _ _ _ (by simp;omega)])
theorem sow4 {w:World}{lo hi r1 r2 d:Nat}{a x:Option Addr}{Z:Sx}(h:SOw w lo hi a x d Z)(h1:r1<lo)(h2:r2<lo)(v0 v1 v2 v3:Value):SOw ((((w.setCell ⟨r1,0,none⟩ v0).setCell ⟨r1,1,none⟩ v1).setCell ⟨r2,0,none⟩ v2).setCell ⟨r2,1,none⟩ v3) lo hi a x d Z:=
 (((h.set ⟨r1,0,none⟩ _ (.inl h1)).set ⟨r1,1,none⟩ _ (.inl h1)).set ⟨r2,0,none⟩ _ (.inl h2)).set ⟨r2,1,none⟩ _ (.inl h2)
theorem infoBool:(Tryz.prog.info? 4).map (fun i=>(i.zero,i.size,i.bytes))=some (some (.bool false),1,1):=by kernel_rfl
def bRow (bs:List Bool):List Value:=bs.map fun b=> .bool b
def BR (w:World)(B:Nat)(v:Value)(bs:List Bool):Prop:=w.ownsRow B 4 1 v bs.length (bRow bs)/\ v≠.slice none 0 0
theorem BR.lt {w:World}{B:Nat}{v:Value}{bs:List Bool}(h:BR w B v bs):∀g,v.ownBlock=some g ->B<=g/\ g<w.heap.size:=fun g e=>World.ownsRow.lt h.1 g e
theorem BR.below {w w1:World}{B:Nat}{v:Value}{bs:List Bool}(h:BR w B v bs)(hb:Below w.heap.size w w1):BR w1 B v bs:=⟨own_at5 h.1 (fun g hg=>hb.block g (h.lt g hg).2),h.2⟩
theorem BR.new (w:World):BR (w.alloc (.cells #[] 4)) w.heap.size (.slice (some ⟨w.heap.size,0,none⟩) 0 0) []:=by
 refine⟨?_,fun e=>by cases e⟩;exact World.ownsRow_lit (base:=w.heap.size) (e:=4) (size:=1) w #[] 0 zL (by unfold maxLen;omega) rfl
theorem boolApp (B:Nat)(w:World)(v:Value)(bs:List Bool)(b:Bool)(h:BR w B v bs)(hB:B<=w.heap.size)(hl:bs.length<=1048576):
  ∃v' w',(Builtin.append_ #[55,55] 55 #[v,.slice (some ⟨w.heap.size,0,none⟩) 1 1]).run Tryz.prog (w.alloc (.cells #[.bool b] 4))=.ok v' w'/\ BR w' B v' (bs++[b])/\ Below B w w':=by
 obtain⟨i0,hi,Ha,Hb,Hc⟩:=info_parts infoBool;have b1:Below w.heap.size w (w.alloc (.cells #[.bool b] 4)):=zO _ _;have h1:=h.below b1;obtain⟨v',w',k1,k2,k3,k4⟩:=run_append_own (P:=Tryz.prog) (w.alloc (.cells #[.bool b] 4)) B 55 55 4 i0 (.bool false) 1 1 Tryz.underlying55 hi Ha Hb Hc rfl (by decide) v bs.length (bRow bs) h1.1 ⟨w.heap.size,0,none⟩ 1 1 (bRow [b]) rfl (fun j u hu=>by
  match j,hu with
  | 0,hu=>simp [bRow] at hu;subst hu;simp [Addr.add]
  | j+1,hu=>simp [bRow] at hu) (fun u hu=>by
   obtain⟨s,_,rfl⟩:=List.mem_map.1 hu;rfl) (by unfold maxLen;omega) (by omega) (by simp;omega)
 refine⟨v',w',k1,⟨?_,fun e=>h.2 (k4.1 e).1⟩,?_⟩
 ·rw [List.length_append];simpa [bRow] using k2
 ·exact(b1.mono hB).grown k3 (by simp;omega) (fun k hk=>(h1.lt k hk).1)
theorem BR.cells {w:World}{B:Nat}{v:Value}{bs:List Bool}(h:BR w B v bs):∃g c,v=.slice (some ⟨g,0,none⟩) bs.length c/\ g<w.heap.size/\∀i,i<bs.length ->w.cell? ⟨g,i,none⟩=some (.bool (bs.getD i false)):=by
 rcases h.1.2 with ⟨e,h0⟩|⟨g,Hb,Hc,rfl,Ha,hb,h1,h2,h3,h4⟩
 ·exact absurd e h.2
 ·refine⟨g,Hb,rfl,(Array.getElem?_eq_some_iff.1 hb).1,fun i hi=> ?_⟩;have q:w.cell? ⟨g,i,none⟩=(bRow bs)[i]? :=by
   rw [<- h4,Nat.mul_one,List.getElem?_take_of_lt hi];simp [World.cell?,hb]
  rw [q];simp [bRow,List.getD,hi]
noncomputable def gnB (gn:Lf ->Prop)(l:List Lf)(k:Nat):List Bool:=(l.take k).map fun x=>yes (gn x)
theorem gnB_succ {gn:Lf ->Prop}{l:List Lf}{k:Nat}(h:k<l.length):gnB gn l (k+1)=gnB gn l k++[yes (gn (gL l k))]:=by
 unfold gnB;rw [take_gL h,List.map_append];rfl
theorem gnB_len (gn:Lf ->Prop)(l:List Lf):(gnB gn l l.length).length=l.length:=by simp [gnB]
theorem gnB_at {gn:Lf ->Prop}{l:List Lf}{i:Nat}(h:i<l.length):(gnB gn l l.length).getD i false=yes (gn (gL l i)):=by
 simp [gnB,List.getD,h,gL]
theorem gnB_le (gn:Lf ->Prop)(l:List Lf)(k:Nat):(gnB gn l k).length<=l.length:=by simp [gnB,List.length_take];omega
theorem specRemove (a:Option Addr)(c:Nat)(xa:Option Addr)(d:Nat)(pa:Option Addr)(pc:Nat)(S:Sx)(p:List ByteArray)(w:World)(hm:S.Sm)(h1:LCap w a S.l)(h3:RSeg w xa S.n S.R S.F S.T)(hp:p.length<=1048576)(hpc:p.length<=pc/\ pc<=9223372036854775807)(hseg:SSeg w pa p):
  Calls Tryz.prog 7 #[.agg #[.slice a S.l.length c,.slice xa S.n d],.slice pa p.length pc] w fun e w'=>∃a m x t a' m' x' t',e=.returned (.tuple #[.agg #[.slice a (rmX S p).l.length m,.slice x (rmX S p).n t],.agg #[.slice a' (rmY S p).l.length m',.slice x' (rmY S p).n t'],.int .i64 (rmC S p)])/\ SNc w' w.heap.size a x (rmX S p)/\ SNc w' w.heap.size a' x' (rmY S p)/\ Below w.heap.size w w':=by
 obtain⟨W,hW⟩:∃W,((w.alloc (.cells #[.slice a S.l.length c,.slice xa S.n d] 28)).alloc (.cells #[.slice none 0 0,.slice none 0 0] 28)).alloc (.cells #[.slice none 0 0,.slice none 0 0] 28)=W:=⟨_,rfl⟩;have b0:Below w.heap.size w W:=by rw [<- hW];exact(below2 _ _ _).alloc (by simp;omega) _
 have zW:W.heap.size=w.heap.size+3:=by rw [<- hW];simp
 have A0:Bx2 W w.heap.size (.slice a S.l.length c) (.slice xa S.n d):=by rw [<- hW];exact((Bx2.made w _ _ _).allocs _).allocs _
 have R0:Bx2 W (w.heap.size+1) (.slice none 0 0) (.slice none 0 0):=by
  rw [<- hW];have:=Bx2.made (w.alloc (.cells #[.slice a S.l.length c,.slice xa S.n d] 28)) (.slice none 0 0) (.slice none 0 0) 28;exact(by simpa using this:Bx2 _ (w.heap.size+1) _ _).allocs _
 have Q0:Bx2 W (w.heap.size+1+1) (.slice none 0 0) (.slice none 0 0):=by
  rw [<- hW];simpa using Bx2.made ((w.alloc (.cells #[.slice a S.l.length c,.slice xa S.n d] 28)).alloc (.cells #[.slice none 0 0,.slice none 0 0] 28)) (.slice none 0 0) (.slice none 0 0) 28
 have H7:=hid A0;have Gf:=hid R0;have Ge:=hid Q0;have Gn:=hid b0;have Gv:=hid zW;have k0:=A0.c0;have k1:=A0.c1;have Hp:=hid (specStateOk a c S.l xa S.n d S.R S.F S.T W hm.l1 hm.p1 hm.n1 (h1.below b0) (h3.below b0));change Hid (Calls _ _ _ _ fun e w'=>e=.returned (.bool (stB S))/\ _) at Hp;have H1:=hid h1;have H3:=hid h3;have Gg:=hid hseg;have Gd:=hid hpc;obtain⟨B,hB⟩:∃B,stB S=B:=⟨_,rfl⟩;have Hq:=hid hB;rw [hB] at Hp;clear b0 zW A0 R0 Q0 h1 h3 hseg hB hpc;go_enter Tryz.func7,Tryz.ntmps7;go_wp2_with fail;try rw [hW]
 clear hW;refine Hp.out.mono ?_;rintro e w1 ⟨rfl,b1⟩;have Hd:=hid (keepS Gn.out b1);have Ha:=hid (Gf.out.below b1 Gf.out.lt);have Hb:=hid (Ge.out.below b1 Ge.out.lt);have H8:=hid (H7.out.below b1 H7.out.lt);have Gt:Hid (w.heap.size+3<=w1.heap.size):=hid (by have:=Gv.out;have:=b1.size;omega);clear b1 k0 k1 Hp;cases B with
 | false=>
  have HZ:Hid (rmX S p=Sx.mt/\ rmY S p=Sx.mt/\ rmC S p=1):=hid (by
   have e:=ocC_1 (p:=p) (v:=⟨#[]⟩) Hq.out;have:=rm_f (S:=S) (p:=p) (by rw [e];decide);rw [e] at this;exact this)
  have TB:=twoB Ha.out Hb.out (show w.heap.size+1≠w.heap.size+1+1 by omega) (.slice none 0 0) (.slice none 0 0) (.slice none 0 0) (.slice none 0 0);have r0:=Ha.out.c0;have r1:=Ha.out.c1;have rf:=Ha.out.f;have q0:=TB.1.c0;have q1:=TB.1.c1;have qf:=TB.1.f;have Hm:=hid TB.2;clear TB;go_wp2_with fail;obtain⟨X1,X2⟩:=Hm.out;refine zF (v:=.tuple #[.agg #[.slice none 0 0,.slice none 0 0],.agg #[.slice none 0 0,.slice none 0 0],.int .i64 1]) (by simp [results,Tryz.results7,go_sem,X1.c0,X1.c1,X2.c0,X2.c1]) ?_;rw [HZ.out.1,HZ.out.2.1,HZ.out.2.2];have G3:=below4 Hd.out (show w.heap.size<=w.heap.size+1 by omega) (show w.heap.size<=w.heap.size+1+1 by omega) (.slice none 0 0) (.slice none 0 0) (.slice none 0 0) (.slice none 0 0);first
   | exact⟨none,0,none,0,none,0,none,0,rfl,SNc.mt _ _ _ _,SNc.mt _ _ _ _,G3⟩
   | exact⟨none,0,none,0,none,0,none,⟨0,rfl⟩,SNc.mt _ _ _ _,SNc.mt _ _ _ _,G3⟩
 | true=>
  have Hv:=hid (pathSpec p pa pc w1 hp (Gg.out.below Hd.out));obtain⟨Z,hZ⟩:∃Z,yes (PthOk p)=Z:=⟨_,rfl⟩;rw [hZ] at Hv;have Gh:=hid hZ;clear hZ;go_wp2_with fail;refine Hv.out.mono ?_;rintro e w2 ⟨rfl,rfl⟩;clear Hv;cases Z with
  | false=>
   have HZ:Hid (rmX S p=Sx.mt/\ rmY S p=Sx.mt/\ rmC S p=2):=hid (by
    have e:=ocC_2 (p:=p) (v:=⟨#[]⟩) Hq.out (fun h=>by have:=Gh.out;rw [yes_t h.1] at this;cases this);have:=rm_f (S:=S) (p:=p) (by rw [e];decide);rw [e] at this;exact this)
   have TB:=twoB Ha.out Hb.out (show w.heap.size+1≠w.heap.size+1+1 by omega) (.slice none 0 0) (.slice none 0 0) (.slice none 0 0) (.slice none 0 0);have r0:=Ha.out.c0;have r1:=Ha.out.c1;have rf:=Ha.out.f;have q0:=TB.1.c0;have q1:=TB.1.c1;have qf:=TB.1.f;have Hm:=hid TB.2;clear TB;go_wp2_with fail;obtain⟨X1,X2⟩:=Hm.out;refine zF (v:=.tuple #[.agg #[.slice none 0 0,.slice none 0 0],.agg #[.slice none 0 0,.slice none 0 0],.int .i64 2]) (by simp [results,Tryz.results7,go_sem,X1.c0,X1.c1,X2.c0,X2.c1]) ?_;rw [HZ.out.1,HZ.out.2.1,HZ.out.2.2];have G3:=below4 Hd.out (show w.heap.size<=w.heap.size+1 by omega) (show w.heap.size<=w.heap.size+1+1 by omega) (.slice none 0 0) (.slice none 0 0) (.slice none 0 0) (.slice none 0 0);first
    | exact⟨none,0,none,0,none,0,none,0,rfl,SNc.mt _ _ _ _,SNc.mt _ _ _ _,G3⟩
    | exact⟨none,0,none,0,none,0,none,⟨0,rfl⟩,SNc.mt _ _ _ _,SNc.mt _ _ _ _,G3⟩
  | true=>
   have Gm:=yes_iff.1 Gh.out;have hs:=stB_t Hq.out;have Gs:=hid hs;have Hw:=hid (rm_t (S:=S) (p:=p) (ocC_0 Hq.out ⟨Gm,by decide⟩));obtain⟨w3,Hs⟩:∃w3,w2.alloc (.cells #[] 4)=w3:=⟨_,rfl⟩;have b3:Below w2.heap.size w2 w3:=by rw [<- Hs];exact zO _ _
   have Gc:Hid (BR w3 w2.heap.size (.slice (some ⟨w2.heap.size,0,none⟩) 0 0) (gnB (gnR p) S.l 0)):=hid (by rw [<- Hs];exact BR.new _);have H9:=hid b3;have Gx:S.l.length<=1000:=hs.2.1;have Gw:=hid (And.intro (Nat.le_refl w2.heap.size) b3.size);clear Gm hs b3;go_wp2_with fail;try rw [Hs]
   clear Hs;go_loopw [7,8] (fun o i wr=>∃k:Nat,k<=S.l.length/\ i=.int .i64 k/\ Hid (Below w2.heap.size w2 wr)/\ Hid (BR wr w2.heap.size o (gnB (gnR p) S.l k))) (fun _ i _=>S.l.length - (intOf i).toNat);case atStart=>exact⟨0,Nat.zero_le _,rfl,H9,Gc⟩
   case round=>
    clear H9 Gc;obtain⟨k,hk,rfl,HB,HO⟩:=hrel;have Ho:=hid (keepS Hd.out HB.out);have A1:=H8.out.below HB.out H8.out.lt;have k0:=A1.c0;have k1:=A1.c1;by_cases H4:k<S.l.length
    ·have i1:(0:Int)<=(k:Int):=Int.natCast_nonneg _;have i2:(k:Int)<(S.l.length:Int):=by omega
     obtain⟨ab,ao,rfl,Gi,Gk⟩:=(H1.out).resolve_left (by omega);obtain⟨qa,qc,⟨c0,Hf⟩,sg,c1,c2,c3,c4⟩:=Gk k H4;have x0:=(Ho.out.cell (p:=⟨ab,ao+k*5,none⟩) Gi).trans c0;have HU:=hid (underSpec p (gL S.l k).p pa qa pc qc wr Gd.out.1 Hf.1 Gd.out.2 Hf.2 (Gg.out.below Ho.out) (sg.below Ho.out));have Hc:Hid (gnB (gnR p) S.l (k+1)=gnB (gnR p) S.l k++[yes (p <+:(gL S.l k).p)]):=hid (gnB_succ H4);obtain⟨bb,Gj⟩:∃bb,yes (p <+:(gL S.l k).p)=bb:=⟨_,rfl⟩;obtain⟨lp,Gl⟩:∃lp,(gL S.l k).p.length=lp:=⟨_,rfl⟩;rw [Gj] at HU Hc;rw [Gl] at HU x0;clear Gj Gl Gk sg c0 c1 c2 c3 c4 Hf Gi A1;go_wp2_with fail;refine HU.out.mono ?_;rintro e w4 ⟨rfl,dn,H5⟩;have Ga:Hid (Below w2.heap.size w2 w4):=hid (by rw [H5];exact below_drewS HB.out dn);have o4:BR w4 w2.heap.size u7 (gnB (gnR p) S.l k):=by rw [H5];exact HO.out.below (below_drewS zI dn)
     obtain⟨v5,w5,Hn,o5,b5⟩:=boolApp w2.heap.size w4 u7 (gnB (gnR p) S.l k) bb o4 Ga.out.size (by have:=gnB_le (gnR p) S.l k;omega);have Go:=hid (Ga.out.trans b5);have Gp:Hid (BR w5 w2.heap.size v5 (gnB (gnR p) S.l (k+1))):=hid (by rw [Hc.out];exact o5);clear HU H5 o4 o5 b5 Hc x0 k0 k1 HO;go_wp2_with (at_builtin;refine wpList_app2 rfl _ _ _ _ rfl Hn (by rfl) (by rfl) rfl ?_;clear Hn);go_roundw;case rel=>exact⟨k+1,H4,by go_num,Go,Gp⟩
     case measure=>simp [intOf];omega
    ·obtain rfl:k=S.l.length:=by omega
     obtain⟨gg,gc,hv,H2,H0⟩:=HO.out.cells;subst hv;rw [gnB_len];rw [gnB_len] at H0;obtain⟨w5,H6⟩:∃w5,wr.alloc (.cells #[] 60)=w5:=⟨_,rfl⟩;have b5:Below wr.heap.size wr w5:=by rw [<- H6];exact zO _ _
     have Hx:=keepS HB.out b5;have Hy:=keepS Ho.out b5;have Hu:=hid (l3ChangeC (gnR p) [] a c xa d gg gc (some ⟨wr.heap.size,0,none⟩) 0 S w5 Gs.out (PtO.nil S) (H1.out.below Hy) (H3.out.below Hy) (Nat.lt_of_lt_of_le H2 b5.size) (fun i hi=>by
      rw [<- gnB_at hi];exact(b5.cell (p:=⟨gg,i,none⟩) H2).trans (H0 i hi)) (.inl rfl))
     obtain⟨X,hX⟩:∃X,chX S (dlS (gnR p) S.l [])=X:=⟨_,rfl⟩;obtain⟨Y,hY⟩:∃Y,chY S (dlS (gnR p) S.l [])=Y:=⟨_,rfl⟩;obtain⟨Cc,Hz⟩:∃Cc,chC S (dlS (gnR p) S.l [])=Cc:=⟨_,rfl⟩;rw [hX,hY,Hz] at Hu;have He:Hid (rmX S p=X/\ rmY S p=Y/\ rmC S p=Cc):=hid ⟨Hw.out.1.trans hX,Hw.out.2.1.trans hY,Hw.out.2.2.trans Hz⟩;have Ht:=hid Hx;have Gu:Hid (w.heap.size+3<=w5.heap.size):=hid (by have h1:=Gt.out;have h2:=Hx.size;omega);clear hX hY Hz H2 H0 b5 Hx Hy HO HB A1;go_wp2_with fail;try rw [H6]
     clear H6;refine Hu.out.mono ?_;rintro e w4 ⟨ra,rc,rx,rd,Hg,Hh,Hj,Hi,rfl,ox,oy,b4⟩;have Hr:=keepS Ht.out b4;have Hk:=hid (Ha.out.below Hr Ha.out.lt);have Hl:=hid (Hb.out.below Hr Hb.out.lt);have Gb:=hid (keepS Hd.out Hr);have Gq:=hid ox;have Gr:=hid oy;clear b4 Hr ox oy Hu k0 k1 Ha Hb Hd;have Ha:=Hk;have Hb:=Hl;have Hd:=Gb;clear Hk Hl Gb;have TB:=twoB Ha.out Hb.out (show w.heap.size+1≠w.heap.size+1+1 by omega) (.slice ra X.l.length rc) (.slice rx X.n rd) (.slice Hg Y.l.length Hh) (.slice Hj Y.n Hi);have r0:=Ha.out.c0;have r1:=Ha.out.c1;have rf:=Ha.out.f;have q0:=TB.1.c0;have q1:=TB.1.c1;have qf:=TB.1.f;have Hm:=hid TB.2;clear TB;go_wp2_with fail;obtain⟨X1,X2⟩:=Hm.out;refine zF (v:=.tuple #[.agg #[.slice ra X.l.length rc,.slice rx X.n rd],.agg #[.slice Hg Y.l.length Hh,.slice Hj Y.n Hi],.int .i64 Cc]) (by simp [results,Tryz.results7,go_sem,X1.c0,X1.c1,X2.c0,X2.c1]) ?_;have hz:=Gu.out;have G3:=below4 Hd.out (show w.heap.size<=w.heap.size+1 by omega) (show w.heap.size<=w.heap.size+1+1 by omega) (.slice ra X.l.length rc) (.slice rx X.n rd) (.slice Hg Y.l.length Hh) (.slice Hj Y.n Hi);rw [He.out.1,He.out.2.1,He.out.2.2];have G1:=snc4 (r1:=w.heap.size+1) (r2:=w.heap.size+1+1) Gq.out (show w.heap.size<=w5.heap.size by omega) (show w.heap.size+1<w5.heap.size by omega) (show w.heap.size+1+1<w5.heap.size by omega) (.slice ra X.l.length rc) (.slice rx X.n rd) (.slice Hg Y.l.length Hh) (.slice Hj Y.n Hi);have G2:=snc4 (r1:=w.heap.size+1) (r2:=w.heap.size+1+1) Gr.out (show w.heap.size<=w5.heap.size by omega) (show w.heap.size+1<w5.heap.size by omega) (show w.heap.size+1+1<w5.heap.size by omega) (.slice ra X.l.length rc) (.slice rx X.n rd) (.slice Hg Y.l.length Hh) (.slice Hj Y.n Hi);first
      | exact⟨ra,rc,rx,rd,Hg,Hh,Hj,Hi,rfl,G1,G2,G3⟩
      | exact⟨ra,rc,rx,rd,Hg,Hh,Hj,⟨Hi,rfl⟩,G1,G2,G3⟩
def seP (S:Sx)(rep:Int)(p:List ByteArray)(fl on:Bool)(v:ByteArray):List Lf:=if on then [nxY S rep p fl v] else []
def seOk (S:Sx)(rep:Int)(on:Bool):Prop:=(0<=rep/\ rep<8)/\ (on=true ->topK S.R S.T rep S.n+1<=1000000000)
noncomputable def seD (S:Sx)(rep:Int)(p:List ByteArray)(fl on:Bool)(v:ByteArray):Sx:=dlS (gnS p fl) S.l (seP S rep p fl on v)
noncomputable def seC (S:Sx)(rep:Int)(p:List ByteArray)(fl on:Bool)(v:ByteArray):Int:=if ocC S p v=0 then(if yes (seOk S rep on)=true then chC S (seD S rep p fl on v) else 3) else ocC S p v
noncomputable def seX (S:Sx)(rep:Int)(p:List ByteArray)(fl on:Bool)(v:ByteArray):Sx:=if ocC S p v=0 then(if yes (seOk S rep on)=true then chX S (seD S rep p fl on v) else Sx.mt) else Sx.mt
noncomputable def seY (S:Sx)(rep:Int)(p:List ByteArray)(fl on:Bool)(v:ByteArray):Sx:=if ocC S p v=0 then(if yes (seOk S rep on)=true then chY S (seD S rep p fl on v) else Sx.mt) else Sx.mt
section
variable {S : Sx} {rep : Int} {p : List ByteArray} {fl on : Bool} {v : ByteArray}
theorem se_n (h:ocC S p v≠0):seX S rep p fl on v=Sx.mt/\ seY S rep p fl on v=Sx.mt/\ seC S rep p fl on v=ocC S p v:=by unfold seX seY seC;rw [if_neg h,if_neg h,if_neg h];exact⟨rfl,rfl,rfl⟩
theorem se_3 (h:ocC S p v=0)(hn:¬seOk S rep on):seX S rep p fl on v=Sx.mt/\ seY S rep p fl on v=Sx.mt/\ seC S rep p fl on v=3:=by unfold seX seY seC;rw [if_pos h,if_pos h,if_pos h,yes_f hn];exact⟨rfl,rfl,rfl⟩
theorem se_t (h:ocC S p v=0)(hn:seOk S rep on):seX S rep p fl on v=chX S (seD S rep p fl on v)/\ seY S rep p fl on v=chY S (seD S rep p fl on v)/\ seC S rep p fl on v=chC S (seD S rep p fl on v):=by unfold seX seY seC;rw [if_pos h,if_pos h,if_pos h,yes_t hn];exact⟨rfl,rfl,rfl⟩
theorem se_pto (hs:StOk S.R S.F S.T S.n S.l)(hp:PthOk p)(hv:v.size<=200)(hf:fl=true ->emB v=true)(h:seOk S rep on):PtO S (seP S rep p fl on v):=by
 unfold seP;cases on with
 | true=>exact nx_pto hs hp hv hf ⟨h.1,h.2 rfl⟩
 | false=>exact PtO.nil S
theorem next_ok (hs:StOk S.R S.F S.T S.n S.l):nextOk S.R S.F S.T rep S.n=yes (nxOk S rep):=by
 have hb:=topK_bd hs.1 rep;have e:nextOk S.R S.F S.T rep S.n=runOkB rep (topK S.R S.T rep S.n+1) (topK S.R S.T rep S.n+1):=by unfold nextOk;rw [hs.1];rfl
 rw [e];by_cases h:nxOk S rep
 ·rw [yes_t h];exact runOk_true ⟨h.1.1,h.1.2,by omega,by omega,h.2⟩
 ·rw [yes_f h];exact runOk_false (fun hh=>h ⟨⟨hh.1,hh.2.1⟩,by omega⟩)
end
theorem leafApp1 (B:Nat)(w:World)(g0:Nat)(pa:Option Addr)(m pc:Nat)(fl:Bool)(r q:Int)(v:ByteArray)(h:w.ownsRow B 60 5 (.slice (some ⟨g0,0,none⟩) 0 0) 0 [])(hB:B<=w.heap.size):
  ∃g c w',(Builtin.append_ #[23,23] 23 #[.slice (some ⟨g0,0,none⟩) 0 0,.slice (some ⟨w.heap.size,0,none⟩) 1 1]).run Tryz.prog (w.alloc (.cells #[.slice pa m pc,.bool fl,.int .i64 r,.int .i64 q,.string v] 60))=.ok (.slice (some ⟨g,0,none⟩) 1 c) w'/\ Below B w w'/\ g<w'.heap.size/\ w'.cell? ⟨g,0,none⟩=some (.slice pa m pc)/\ w'.cell? ⟨g,1,none⟩=some (.bool fl)/\ w'.cell? ⟨g,2,none⟩=some (.int .i64 r)/\ w'.cell? ⟨g,3,none⟩=some (.int .i64 q)/\ w'.cell? ⟨g,4,none⟩=some (.string v):=by
 obtain⟨i0,hi,Hd,He,Hf⟩:=info_parts infoLeaf;have b2:Below w.heap.size w (w.alloc (.cells #[.slice pa m pc,.bool fl,.int .i64 r,.int .i64 q,.string v] 60)):=zO _ _;have h2:=World.ownsRow.alloc h (.cells #[.slice pa m pc,.bool fl,.int .i64 r,.int .i64 q,.string v] 60);have Hb:=cell_five_new w (.slice pa m pc) (.bool fl) (.int .i64 r) (.int .i64 q) (.string v) 60;obtain⟨W2,Ha⟩:∃W2,w.alloc (.cells #[.slice pa m pc,.bool fl,.int .i64 r,.int .i64 q,.string v] 60)=W2:=⟨_,rfl⟩;rw [Ha] at h2 Hb b2 ⊢;have hz:W2.heap.size=w.heap.size+1:=by rw [<- Ha];simp
 obtain⟨v',w3,hr,g2,g3,g4,g5⟩:=run_append_own_at (P:=Tryz.prog) W2 B 23 23 60 i0 _ 5 64 Tryz.underlying23 hi Hd He Hf rfl (by decide) (.slice (some ⟨g0,0,none⟩) 0 0) 0 [] h2 ⟨w.heap.size,0,none⟩ 1 1 [.slice pa m pc,.bool fl,.int .i64 r,.int .i64 q,.string v] rfl Hb (fun u hu=>by
  simp only [List.mem_cons,List.not_mem_nil,or_false] at hu;rcases hu with e|e|e|e|e<;>rw [e]<;>rfl) (by unfold maxLen;omega) (by omega) (by omega)
 rcases g2.2 with ⟨hv,h0⟩|⟨g,Hc,Hg,hv,hb,hh,r1,r2,r3,r4⟩
 ·omega
 subst hv;have hc:∀j,j<5 ->w3.cell? ⟨g,j,none⟩=([.slice pa m pc,.bool fl,.int .i64 r,.int .i64 q,.string v]:List Value)[j]? :=fun j hj=>World.ownsRow.cellAt g2 j (by omega);refine⟨g,Hc,w3,hr,?_,(Array.getElem?_eq_some_iff.1 hh).1,hc 0 (by omega),hc 1 (by omega),hc 2 (by omega),hc 3 (by omega),hc 4 (by omega)⟩;exact(b2.mono hB).grown g3 (by omega) (fun k hk=>(World.ownsRow.lt h2 k hk).1)
theorem l3SetC (a:Option Addr)(c:Nat)(xa:Option Addr)(d:Nat)(pa:Option Addr)(pc:Nat)(S:Sx)(rep:Int)(p:List ByteArray)(fl on:Bool)(v:ByteArray)(w:World)(hm:S.Sm)(hT:I64 S.T)(h1:LCap w a S.l)(h3:RSeg w xa S.n S.R S.F S.T)(hp:p.length<=1048576)(hpc:p.length<=pc/\ pc<=9223372036854775807)(hseg:SSeg w pa p)(hv:v.size<=1048576)(hfv:fl=true ->emB v=true):
  Calls Tryz.prog 24 #[.agg #[.slice a S.l.length c,.slice xa S.n d],.int .i64 rep,.slice pa p.length pc,.bool fl,.bool on,.string v] w fun e w'=>∃a m x t a' m' x' t',e=.returned (.tuple #[.agg #[.slice a (seX S rep p fl on v).l.length m,.slice x (seX S rep p fl on v).n t],.agg #[.slice a' (seY S rep p fl on v).l.length m',.slice x' (seY S rep p fl on v).n t'],.int .i64 (seC S rep p fl on v)])/\ SNc w' w.heap.size a x (seX S rep p fl on v)/\ SNc w' w.heap.size a' x' (seY S rep p fl on v)/\ Below w.heap.size w w':=by
 obtain⟨W,hW⟩:∃W,((w.alloc (.cells #[.slice a S.l.length c,.slice xa S.n d] 28)).alloc (.cells #[.slice none 0 0,.slice none 0 0] 28)).alloc (.cells #[.slice none 0 0,.slice none 0 0] 28)=W:=⟨_,rfl⟩;have b0:Below w.heap.size w W:=by rw [<- hW];exact(below2 _ _ _).alloc (by simp;omega) _
 have zW:W.heap.size=w.heap.size+3:=by rw [<- hW];simp
 have A0:Bx2 W w.heap.size (.slice a S.l.length c) (.slice xa S.n d):=by rw [<- hW];exact((Bx2.made w _ _ _).allocs _).allocs _
 have R0:Bx2 W (w.heap.size+1) (.slice none 0 0) (.slice none 0 0):=by
  rw [<- hW];have:=Bx2.made (w.alloc (.cells #[.slice a S.l.length c,.slice xa S.n d] 28)) (.slice none 0 0) (.slice none 0 0) 28;exact(by simpa using this:Bx2 _ (w.heap.size+1) _ _).allocs _
 have Q0:Bx2 W (w.heap.size+1+1) (.slice none 0 0) (.slice none 0 0):=by
  rw [<- hW];simpa using Bx2.made ((w.alloc (.cells #[.slice a S.l.length c,.slice xa S.n d] 28)).alloc (.cells #[.slice none 0 0,.slice none 0 0] 28)) (.slice none 0 0) (.slice none 0 0) 28
 have G5:=hid A0;have G8:=hid R0;have G7:=hid Q0;have Kl:=hid b0;have Ks:=hid zW;have k0:=A0.c0;have k1:=A0.c1;have Gq:=hid (specStateOk a c S.l xa S.n d S.R S.F S.T W hm.l1 hm.p1 hm.n1 (h1.below b0) (h3.below b0));change Hid (Calls _ _ _ _ fun e w'=>e=.returned (.bool (stB S))/\ _) at Gq;have H1:=hid h1;have H3:=hid h3;have Gr:=hid hseg;have Gl:=hid hpc;have Kn:=hid hfv;have Ko:=hid hm.n1;obtain⟨B,hB⟩:∃B,stB S=B:=⟨_,rfl⟩;have Gm:=hid hB;rw [hB] at Gq;clear b0 zW A0 R0 Q0 h1 h3 hseg hB hpc hfv;go_enter Tryz.func24,Tryz.ntmps24;go_wp2_with fail;try rw [hW]
 clear hW;refine Gq.out.mono ?_;rintro e w1 ⟨rfl,b1⟩;have Hf:=hid (keepS Kl.out b1);have Ha:=hid (G8.out.below b1 G8.out.lt);have Hc:=hid (G7.out.below b1 G7.out.lt);have Gg:=hid (G5.out.below b1 G5.out.lt);have Ka:Hid (w.heap.size+3<=w1.heap.size):=hid (by have:=Ks.out;have:=b1.size;omega);clear b1 k0 k1 Gq;cases B with
 | false=>
  have HZ:Hid (seX S rep p fl on v=Sx.mt/\ seY S rep p fl on v=Sx.mt/\ seC S rep p fl on v=1):=hid (by
   have e:=ocC_1 (p:=p) (v:=v) Gm.out;have:=se_n (S:=S) (rep:=rep) (p:=p) (fl:=fl) (on:=on) (v:=v) (by rw [e];decide);rw [e] at this;exact this)
  have TB:=twoB Ha.out Hc.out (show w.heap.size+1≠w.heap.size+1+1 by omega) (.slice none 0 0) (.slice none 0 0) (.slice none 0 0) (.slice none 0 0);have r0:=Ha.out.c0;have r1:=Ha.out.c1;have rf:=Ha.out.f;have q0:=TB.1.c0;have q1:=TB.1.c1;have qf:=TB.1.f;have Ho:=hid TB.2;clear TB;go_wp2_with fail;obtain⟨X1,X2⟩:=Ho.out;refine zF (v:=.tuple #[.agg #[.slice none 0 0,.slice none 0 0],.agg #[.slice none 0 0,.slice none 0 0],.int .i64 1]) (by simp [results,Tryz.results24,go_sem,X1.c0,X1.c1,X2.c0,X2.c1]) ?_;rw [HZ.out.1,HZ.out.2.1,HZ.out.2.2];have G3:=below4 Hf.out (show w.heap.size<=w.heap.size+1 by omega) (show w.heap.size<=w.heap.size+1+1 by omega) (.slice none 0 0) (.slice none 0 0) (.slice none 0 0) (.slice none 0 0);first
   | exact⟨none,0,none,0,none,0,none,0,rfl,SNc.mt _ _ _ _,SNc.mt _ _ _ _,G3⟩
   | exact⟨none,0,none,0,none,0,none,⟨0,rfl⟩,SNc.mt _ _ _ _,SNc.mt _ _ _ _,G3⟩
 | true=>
  have Gw:=hid (pathSpec p pa pc w1 hp (Gr.out.below Hf.out));obtain⟨Z,hZ⟩:∃Z,yes (PthOk p)=Z:=⟨_,rfl⟩;rw [hZ] at Gw;have Kb:=hid hZ;clear hZ;go_wp2_with fail;refine Gw.out.mono ?_;rintro e w2 ⟨rfl,rfl⟩;clear Gw;cases Z with
  | false=>
   have HZ:Hid (seX S rep p fl on v=Sx.mt/\ seY S rep p fl on v=Sx.mt/\ seC S rep p fl on v=2):=hid (by
    have e:=ocC_2 (p:=p) (v:=v) Gm.out (fun h=>by have:=Kb.out;rw [yes_t h.1] at this;cases this);have:=se_n (S:=S) (rep:=rep) (p:=p) (fl:=fl) (on:=on) (v:=v) (by rw [e];decide);rw [e] at this;exact this)
   have TB:=twoB Ha.out Hc.out (show w.heap.size+1≠w.heap.size+1+1 by omega) (.slice none 0 0) (.slice none 0 0) (.slice none 0 0) (.slice none 0 0);have r0:=Ha.out.c0;have r1:=Ha.out.c1;have rf:=Ha.out.f;have q0:=TB.1.c0;have q1:=TB.1.c1;have qf:=TB.1.f;have Ho:=hid TB.2;clear TB;go_wp2_with fail;obtain⟨X1,X2⟩:=Ho.out;refine zF (v:=.tuple #[.agg #[.slice none 0 0,.slice none 0 0],.agg #[.slice none 0 0,.slice none 0 0],.int .i64 2]) (by simp [results,Tryz.results24,go_sem,X1.c0,X1.c1,X2.c0,X2.c1]) ?_;rw [HZ.out.1,HZ.out.2.1,HZ.out.2.2];have G3:=below4 Hf.out (show w.heap.size<=w.heap.size+1 by omega) (show w.heap.size<=w.heap.size+1+1 by omega) (.slice none 0 0) (.slice none 0 0) (.slice none 0 0) (.slice none 0 0);first
    | exact⟨none,0,none,0,none,0,none,0,rfl,SNc.mt _ _ _ _,SNc.mt _ _ _ _,G3⟩
    | exact⟨none,0,none,0,none,0,none,⟨0,rfl⟩,SNc.mt _ _ _ _,SNc.mt _ _ _ _,G3⟩
  | true=>
   by_cases Gp:v.size<=200
   ·have i0:¬(v.size:Int)>200:=by omega
    have G0:=yes_iff.1 Kb.out;have hs:=stB_t Gm.out;have Gx:=hid hs;have Kp:=hid G0;have Kr:=hid Gp;have G6:=hid (ocC_0 (p:=p) (v:=v) Gm.out ⟨G0,Gp⟩);have Gt:=hid (specNext xa S.n d S.R S.F S.T rep w2 Ko.out (H3.out.below Hf.out) hT);rw [next_ok hs] at Gt;have l1:=Gg.out.c1;have Ku:S.l.length<=1000:=hs.2.1;clear G0 hs Gp;go_wp2_with fail;refine Gt.out.mono ?_;rintro e w3 ⟨hy,Kf,b3⟩;clear Gt l1;obtain⟨dr,dq,ok,he,Kg,Kd⟩:∃dr dq ok,e=.returned (.tuple #[.agg #[.int .i64 dr,.int .i64 dq],.bool ok])/\ ok=yes (nxOk S rep)/\ (ok=true ->dr=rep/\ dq=topK S.R S.T rep S.n+1):=by
     cases hk:yes (nxOk S rep) with
     | true=>exact⟨rep,topK S.R S.T rep S.n+1,true,hy hk,rfl,fun _=>⟨rfl,rfl⟩⟩
     | false=>exact⟨0,0,false,Kf hk,rfl,fun h=>by cases h⟩
    clear hy Kf;subst he;have Gk:=hid Kg;have Km:=hid Kd;clear Kg Kd;obtain⟨u4,H6⟩:∃u4,w3.alloc (.cells #[.int .i64 dr,.int .i64 dq] 58)=u4:=⟨_,rfl⟩;have b4:Below w3.heap.size w3 u4:=by rw [<- H6];exact zO _ _
    have H9:Hid (Bx2 u4 w3.heap.size (.int .i64 dr) (.int .i64 dq)):=hid (by rw [<- H6];exact Bx2.made _ _ _ _);have Hd:=hid (keepS b3 b4);clear b3 b4;by_cases Hn:seOk S rep on
    ·have Kt:=hid Hn;have Kh:0<=rep:=Hn.1.1;have Ki:rep<8:=Hn.1.2;have Kj:¬rep<0:=by omega
     have Kk:¬8<=rep:=by omega
     have Kc:=hid (se_t (S:=S) (rep:=rep) (p:=p) (fl:=fl) (on:=on) (v:=v) G6.out Hn);cases on with
     | true=>
      obtain rfl:ok=true:=by rw [Gk.out];exact yes_t ⟨Hn.1,Hn.2 rfl⟩
      obtain⟨e1,e2⟩:=Km.out rfl;subst e1;have G9:Hid (nxY S dr p fl v=⟨p,fl,dr,dq,v⟩):=hid (by unfold nxY;rw [<- e2]);have Gy:Hid (seD S dr p fl true v=dlS (gnS p fl) S.l [⟨p,fl,dr,dq,v⟩]):=hid (by unfold seD seP;rw [if_pos rfl,G9.out]);have Kq:Hid (PtO S [⟨p,fl,dr,dq,v⟩]):=hid (by rw [<- G9.out];exact nx_pto Gx.out Kp.out Kr.out Kn.out ⟨Hn.1,Hn.2 rfl⟩);clear Hn e2;have Hj:=hid (Gg.out.below Hd.out Gg.out.lt);have Gs:=hid (keepS Hf.out Hd.out);obtain⟨w5,Hm⟩:∃w5,u4.alloc (.cells #[] 4)=w5:=⟨_,rfl⟩;have b5:Below u4.heap.size u4 w5:=by rw [<- Hm];exact zO _ _
      have Gj:Hid (BR w5 u4.heap.size (.slice (some ⟨u4.heap.size,0,none⟩) 0 0) (gnB (gnS p fl) S.l 0)):=hid (by rw [<- Hm];exact BR.new _);have Gh:=hid b5;clear b5;go_wp2_with fail;try rw [H6]
      try rw [Hm]
      clear Hm H6;go_loopw [17,18] (fun o i wr=>∃k:Nat,k<=S.l.length/\ i=.int .i64 k/\ Hid (Below u4.heap.size u4 wr)/\ Hid (BR wr u4.heap.size o (gnB (gnS p fl) S.l k))) (fun _ i _=>S.l.length - (intOf i).toNat);case atStart=>exact⟨0,Nat.zero_le _,rfl,Gh,Gj⟩
      case round=>
       clear Gh Gj;obtain⟨k,hk,rfl,HB,HO⟩:=hrel;have Hy:=hid (keepS Gs.out HB.out);have A1:=Hj.out.below HB.out Hj.out.lt;have k0:=A1.c0;have k1:=A1.c1;by_cases Hr:k<S.l.length
       ·have i1:(0:Int)<=(k:Int):=Int.natCast_nonneg _;have i2:(k:Int)<(S.l.length:Int):=by omega
        obtain⟨ab,ao,rfl,Gd,Gn⟩:=(H1.out).resolve_left (by omega);obtain⟨qa,qc,⟨c0,Hq⟩,sg,c1,c2,c3,c4⟩:=Gn k Hr;have x0:=(Hy.out.cell (p:=⟨ab,ao+k*5,none⟩) Gd).trans c0;have x1:=(Hy.out.cell (p:=⟨ab,ao+k*5+1,none⟩) Gd).trans c1;have HC:=hid (cmpSpec (gL S.l k).p p qa pa qc pc wr Hq.1 Gl.out.1 Hq.2 Gl.out.2 (sg.below Hy.out) (Gr.out.below Hy.out));have Hx:Hid (cmpP (gL S.l k).p p=0↔(gL S.l k).p=p):=hid cmpP_z;have He:Hid (gnB (gnS p fl) S.l (k+1)=gnB (gnS p fl) S.l k++[yes ((gL S.l k).p=p/\ (gL S.l k).fl=fl)]):=hid (gnB_succ Hr);obtain⟨y,hy⟩:∃y,gL S.l k=y:=⟨_,rfl⟩;rw [hy] at x0 x1 HC Hx He;obtain⟨lp,yf,yr,yq,yv⟩:=y;dsimp only at x0 x1 HC Hx He;obtain⟨C,hC⟩:∃C,cmpP lp p=C:=⟨_,rfl⟩;rw [hC] at Hx HC;clear hC hy Gn sg c0 c1 c2 c3 c4 Hq Gd A1;go_wp2_with fail;refine HC.out.mono ?_;rintro e w6 ⟨rfl,dn,H2⟩;have Gi:Hid (Below u4.heap.size u4 w6):=hid (by rw [H2];exact below_drewS HB.out dn);have o6:BR w6 u4.heap.size u17 (gnB (gnS p fl) S.l k):=by rw [H2];exact HO.out.below (below_drewS zI dn)
        have y1:w6.cell? ⟨ab,ao+k*5+1,none⟩=some (.bool yf):=by rw [H2];simpa using x1
        have m0:w6.cell? ⟨w.heap.size,0,none⟩=some (.slice (some ⟨ab,ao,none⟩) S.l.length c):=by rw [H2];simpa using k0
        have Hg:Hid (∀bb,yes (lp=p/\ yf=fl)=bb ->∃v7 w7,(Builtin.append_ #[55,55] 55 #[u17,.slice (some ⟨w6.heap.size,0,none⟩) 1 1]).run Tryz.prog (w6.alloc (.cells #[.bool bb] 4))=.ok v7 w7/\ BR w7 u4.heap.size v7 (gnB (gnS p fl) S.l (k+1))/\ Below u4.heap.size u4 w7):=hid (fun bb hbb=>by
         obtain⟨v7,w7,h1,h2,h3⟩:=boolApp u4.heap.size w6 u17 (gnB (gnS p fl) S.l k) bb o6 Gi.out.size (by have:=gnB_le (gnS p fl) S.l k;omega);exact⟨v7,w7,h1,by rw [He.out,hbb];exact h2,Gi.out.trans h3⟩)
        clear HC H2 o6 x0 x1 k0 k1 HO He;by_cases hz:C=0
        ·have d0:(C==0)=true:=by simpa using hz
         cases yf<;>cases fl
         ·obtain⟨v7,w7,Hb,o7,b7⟩:=Hg.out true (yes_t ⟨Hx.out.1 hz,rfl⟩);have Hh:=hid b7;have Hi:=hid o7;clear Hg o7 b7;go_wp2_with (at_builtin;refine wpList_app2 rfl _ _ _ _ rfl Hb (by rfl) (by rfl) rfl ?_;clear Hb);go_roundw;case rel=>exact⟨k+1,Hr,by go_num,Hh,Hi⟩
          case measure=>simp [intOf];omega
         ·obtain⟨v7,w7,Hb,o7,b7⟩:=Hg.out false (yes_f (fun h=>by cases h.2));have Hh:=hid b7;have Hi:=hid o7;clear Hg o7 b7;go_wp2_with (at_builtin;refine wpList_app2 rfl _ _ _ _ rfl Hb (by rfl) (by rfl) rfl ?_;clear Hb);go_roundw;case rel=>exact⟨k+1,Hr,by go_num,Hh,Hi⟩
          case measure=>simp [intOf];omega
         ·obtain⟨v7,w7,Hb,o7,b7⟩:=Hg.out false (yes_f (fun h=>by cases h.2));have Hh:=hid b7;have Hi:=hid o7;clear Hg o7 b7;go_wp2_with (at_builtin;refine wpList_app2 rfl _ _ _ _ rfl Hb (by rfl) (by rfl) rfl ?_;clear Hb);go_roundw;case rel=>exact⟨k+1,Hr,by go_num,Hh,Hi⟩
          case measure=>simp [intOf];omega
         ·obtain⟨v7,w7,Hb,o7,b7⟩:=Hg.out true (yes_t ⟨Hx.out.1 hz,rfl⟩);have Hh:=hid b7;have Hi:=hid o7;clear Hg o7 b7;go_wp2_with (at_builtin;refine wpList_app2 rfl _ _ _ _ rfl Hb (by rfl) (by rfl) rfl ?_;clear Hb);go_roundw;case rel=>exact⟨k+1,Hr,by go_num,Hh,Hi⟩
          case measure=>simp [intOf];omega
        ·have d0:(C==0)=false:=by simpa using hz
         obtain⟨v7,w7,Hb,o7,b7⟩:=Hg.out false (yes_f (fun h=>hz (Hx.out.2 h.1)));have Hh:=hid b7;have Hi:=hid o7;clear Hg o7 b7;go_wp2_with (at_builtin;refine wpList_app2 rfl _ _ _ _ rfl Hb (by rfl) (by rfl) rfl ?_;clear Hb);go_roundw;case rel=>exact⟨k+1,Hr,by go_num,Hh,Hi⟩
         case measure=>simp [intOf];omega
       ·obtain rfl:k=S.l.length:=by omega
        obtain⟨gg,gc,G4,Gf,Ge⟩:=HO.out.cells;subst G4;rw [gnB_len];rw [gnB_len] at Ge;obtain⟨w5,Hm⟩:∃w5,wr.alloc (.cells #[] 60)=w5:=⟨_,rfl⟩;have b5:Below wr.heap.size wr w5:=by rw [<- Hm];exact zO _ _
        have H5:w5.ownsRow wr.heap.size 60 5 (.slice (some ⟨wr.heap.size,0,none⟩) 0 0) 0 []:=by
         rw [<- Hm];exact World.ownsRow_lit (base:=wr.heap.size) (e:=60) (size:=5) wr #[] 0 zL (by unfold maxLen;omega) rfl
        obtain⟨g7,c7,w7,Hb,b7,Ke,q0,q1,q2,q3,q4⟩:=leafApp1 wr.heap.size w5 wr.heap.size pa p.length pc fl dr dq v H5 b5.size;have bW:Below wr.heap.size wr w7:=b5.trans b7;have Go:LCap w7 (some ⟨g7,0,none⟩) [(⟨p,fl,dr,dq,v⟩:Lf)]:=by
         refine .inr ⟨g7,0,rfl,Ke,fun i hi=> ?_⟩;obtain rfl:i=0:=by simpa using hi
         exact⟨pa,pc,⟨q0,Gl.out⟩,(Gr.out.below Hy.out).below bW,q1,q2,q3,q4⟩
        have D5:=(H9.out.below HB.out H9.out.lt).below b5 (H9.out.below HB.out H9.out.lt).lt;have t0:=D5.c0;have t1:=D5.c1;have A7:=(Hj.out.below HB.out Hj.out.lt).below bW (Hj.out.below HB.out Hj.out.lt).lt;have t2:=A7.c0;have t3:=A7.c1;have Ga:=keepS HB.out bW;have Gb:=keepS Hy.out bW;have H8:=hid (l3ChangeC (gnS p fl) [⟨p,fl,dr,dq,v⟩] a c xa d gg gc (some ⟨g7,0,none⟩) c7 S w7 Gx.out Kq.out (H1.out.below Gb) (H3.out.below Gb) (Nat.lt_of_lt_of_le Gf bW.size) (fun i hi=>by
         rw [<- gnB_at hi];exact(bW.cell (p:=⟨gg,i,none⟩) Gf).trans (Ge i hi)) Go)
        obtain⟨X,hX⟩:∃X,chX S (dlS (gnS p fl) S.l [⟨p,fl,dr,dq,v⟩])=X:=⟨_,rfl⟩;obtain⟨Y,hY⟩:∃Y,chY S (dlS (gnS p fl) S.l [⟨p,fl,dr,dq,v⟩])=Y:=⟨_,rfl⟩;obtain⟨Cc,Gc⟩:∃Cc,chC S (dlS (gnS p fl) S.l [⟨p,fl,dr,dq,v⟩])=Cc:=⟨_,rfl⟩;rw [hX,hY,Gc] at H8;have Hp:Hid (seX S dr p fl true v=X/\ seY S dr p fl true v=Y/\ seC S dr p fl true v=Cc):=hid (by
         obtain⟨z1,z2,z3⟩:=Kc.out;rw [Gy.out] at z1 z2 z3;exact⟨z1.trans hX,z2.trans hY,z3.trans Gc⟩)
        have H7:=hid Ga;have Gz:Hid (w.heap.size+3<=w7.heap.size):=hid (by have h1:=Ka.out;have h2:=Ga.size;have h3:=Hd.out.size;omega);clear hX hY Gc Gf Ge Ga Gb HO A1 A7 bW H5 k0 k1;have k0:=(Hj.out.below HB.out Hj.out.lt).c0;clear b5 D5 Go q0 q1 q2 q3 q4 Ke b7 HB;go_wp2_with (at_builtin;refine wpList_app2 rfl _ _ _ _ rfl Hb (by rfl) (by rfl) rfl ?_;clear Hb);refine H8.out.mono ?_;rintro e w4 ⟨ra,rc,rx,rd,Hs,Ht,Hv,Hu,rfl,ox,oy,b4⟩;have H4:=keepS Hd.out (keepS H7.out b4);have Hz:=hid (Ha.out.below H4 Ha.out.lt);have H0:=hid (Hc.out.below H4 Hc.out.lt);have Hw:=hid (keepS Hf.out H4);have Gu:=hid ox;have Gv:=hid oy;clear b4 H4 ox oy H8 t2 t3 k0 Ha Hc Hf;try clear t0 t1
        have Ha:=Hz;have Hc:=H0;have Hf:=Hw;clear Hz H0 Hw;have TB:=twoB Ha.out Hc.out (show w.heap.size+1≠w.heap.size+1+1 by omega) (.slice ra X.l.length rc) (.slice rx X.n rd) (.slice Hs Y.l.length Ht) (.slice Hv Y.n Hu);have r0:=Ha.out.c0;have r1:=Ha.out.c1;have rf:=Ha.out.f;have q0:=TB.1.c0;have q1:=TB.1.c1;have qf:=TB.1.f;have Ho:=hid TB.2;clear TB;go_wp2_with fail;obtain⟨X1,X2⟩:=Ho.out;refine zF (v:=.tuple #[.agg #[.slice ra X.l.length rc,.slice rx X.n rd],.agg #[.slice Hs Y.l.length Ht,.slice Hv Y.n Hu],.int .i64 Cc]) (by simp [results,Tryz.results24,go_sem,X1.c0,X1.c1,X2.c0,X2.c1]) ?_;have hz:=Gz.out;have G3:=below4 Hf.out (show w.heap.size<=w.heap.size+1 by omega) (show w.heap.size<=w.heap.size+1+1 by omega) (.slice ra X.l.length rc) (.slice rx X.n rd) (.slice Hs Y.l.length Ht) (.slice Hv Y.n Hu);rw [Hp.out.1,Hp.out.2.1,Hp.out.2.2];have G1:=snc4 (r1:=w.heap.size+1) (r2:=w.heap.size+1+1) Gu.out (show w.heap.size<=w7.heap.size by omega) (show w.heap.size+1<w7.heap.size by omega) (show w.heap.size+1+1<w7.heap.size by omega) (.slice ra X.l.length rc) (.slice rx X.n rd) (.slice Hs Y.l.length Ht) (.slice Hv Y.n Hu);have G2:=snc4 (r1:=w.heap.size+1) (r2:=w.heap.size+1+1) Gv.out (show w.heap.size<=w7.heap.size by omega) (show w.heap.size+1<w7.heap.size by omega) (show w.heap.size+1+1<w7.heap.size by omega) (.slice ra X.l.length rc) (.slice rx X.n rd) (.slice Hs Y.l.length Ht) (.slice Hv Y.n Hu);first
         | exact⟨ra,rc,rx,rd,Hs,Ht,Hv,Hu,rfl,G1,G2,G3⟩
         | exact⟨ra,rc,rx,rd,Hs,Ht,Hv,⟨Hu,rfl⟩,G1,G2,G3⟩
     | false=>
      have Gy:Hid (seD S rep p fl false v=dlS (gnS p fl) S.l []):=hid rfl;clear Hn;have Hj:=hid (Gg.out.below Hd.out Gg.out.lt);have Gs:=hid (keepS Hf.out Hd.out);obtain⟨w5,Hm⟩:∃w5,u4.alloc (.cells #[] 4)=w5:=⟨_,rfl⟩;have b5:Below u4.heap.size u4 w5:=by rw [<- Hm];exact zO _ _
      have Gj:Hid (BR w5 u4.heap.size (.slice (some ⟨u4.heap.size,0,none⟩) 0 0) (gnB (gnS p fl) S.l 0)):=hid (by rw [<- Hm];exact BR.new _);have Gh:=hid b5;clear b5;go_wp2_with fail;try rw [H6]
      try rw [Hm]
      clear Hm H6;go_loopw [17,18] (fun o i wr=>∃k:Nat,k<=S.l.length/\ i=.int .i64 k/\ Hid (Below u4.heap.size u4 wr)/\ Hid (BR wr u4.heap.size o (gnB (gnS p fl) S.l k))) (fun _ i _=>S.l.length - (intOf i).toNat);case atStart=>exact⟨0,Nat.zero_le _,rfl,Gh,Gj⟩
      case round=>
       clear Gh Gj;obtain⟨k,hk,rfl,HB,HO⟩:=hrel;have Hy:=hid (keepS Gs.out HB.out);have A1:=Hj.out.below HB.out Hj.out.lt;have k0:=A1.c0;have k1:=A1.c1;by_cases Hr:k<S.l.length
       ·have i1:(0:Int)<=(k:Int):=Int.natCast_nonneg _;have i2:(k:Int)<(S.l.length:Int):=by omega
        obtain⟨ab,ao,rfl,Gd,Gn⟩:=(H1.out).resolve_left (by omega);obtain⟨qa,qc,⟨c0,Hq⟩,sg,c1,c2,c3,c4⟩:=Gn k Hr;have x0:=(Hy.out.cell (p:=⟨ab,ao+k*5,none⟩) Gd).trans c0;have x1:=(Hy.out.cell (p:=⟨ab,ao+k*5+1,none⟩) Gd).trans c1;have HC:=hid (cmpSpec (gL S.l k).p p qa pa qc pc wr Hq.1 Gl.out.1 Hq.2 Gl.out.2 (sg.below Hy.out) (Gr.out.below Hy.out));have Hx:Hid (cmpP (gL S.l k).p p=0↔(gL S.l k).p=p):=hid cmpP_z;have He:Hid (gnB (gnS p fl) S.l (k+1)=gnB (gnS p fl) S.l k++[yes ((gL S.l k).p=p/\ (gL S.l k).fl=fl)]):=hid (gnB_succ Hr);obtain⟨y,hy⟩:∃y,gL S.l k=y:=⟨_,rfl⟩;rw [hy] at x0 x1 HC Hx He;obtain⟨lp,yf,yr,yq,yv⟩:=y;dsimp only at x0 x1 HC Hx He;obtain⟨C,hC⟩:∃C,cmpP lp p=C:=⟨_,rfl⟩;rw [hC] at Hx HC;clear hC hy Gn sg c0 c1 c2 c3 c4 Hq Gd A1;go_wp2_with fail;refine HC.out.mono ?_;rintro e w6 ⟨rfl,dn,H2⟩;have Gi:Hid (Below u4.heap.size u4 w6):=hid (by rw [H2];exact below_drewS HB.out dn);have o6:BR w6 u4.heap.size u17 (gnB (gnS p fl) S.l k):=by rw [H2];exact HO.out.below (below_drewS zI dn)
        have y1:w6.cell? ⟨ab,ao+k*5+1,none⟩=some (.bool yf):=by rw [H2];simpa using x1
        have m0:w6.cell? ⟨w.heap.size,0,none⟩=some (.slice (some ⟨ab,ao,none⟩) S.l.length c):=by rw [H2];simpa using k0
        have Hg:Hid (∀bb,yes (lp=p/\ yf=fl)=bb ->∃v7 w7,(Builtin.append_ #[55,55] 55 #[u17,.slice (some ⟨w6.heap.size,0,none⟩) 1 1]).run Tryz.prog (w6.alloc (.cells #[.bool bb] 4))=.ok v7 w7/\ BR w7 u4.heap.size v7 (gnB (gnS p fl) S.l (k+1))/\ Below u4.heap.size u4 w7):=hid (fun bb hbb=>by
         obtain⟨v7,w7,h1,h2,h3⟩:=boolApp u4.heap.size w6 u17 (gnB (gnS p fl) S.l k) bb o6 Gi.out.size (by have:=gnB_le (gnS p fl) S.l k;omega);exact⟨v7,w7,h1,by rw [He.out,hbb];exact h2,Gi.out.trans h3⟩)
        clear HC H2 o6 x0 x1 k0 k1 HO He;by_cases hz:C=0
        ·have d0:(C==0)=true:=by simpa using hz
         cases yf<;>cases fl
         ·obtain⟨v7,w7,Hb,o7,b7⟩:=Hg.out true (yes_t ⟨Hx.out.1 hz,rfl⟩);have Hh:=hid b7;have Hi:=hid o7;clear Hg o7 b7;go_wp2_with (at_builtin;refine wpList_app2 rfl _ _ _ _ rfl Hb (by rfl) (by rfl) rfl ?_;clear Hb);go_roundw;case rel=>exact⟨k+1,Hr,by go_num,Hh,Hi⟩
          case measure=>simp [intOf];omega
         ·obtain⟨v7,w7,Hb,o7,b7⟩:=Hg.out false (yes_f (fun h=>by cases h.2));have Hh:=hid b7;have Hi:=hid o7;clear Hg o7 b7;go_wp2_with (at_builtin;refine wpList_app2 rfl _ _ _ _ rfl Hb (by rfl) (by rfl) rfl ?_;clear Hb);go_roundw;case rel=>exact⟨k+1,Hr,by go_num,Hh,Hi⟩
          case measure=>simp [intOf];omega
         ·obtain⟨v7,w7,Hb,o7,b7⟩:=Hg.out false (yes_f (fun h=>by cases h.2));have Hh:=hid b7;have Hi:=hid o7;clear Hg o7 b7;go_wp2_with (at_builtin;refine wpList_app2 rfl _ _ _ _ rfl Hb (by rfl) (by rfl) rfl ?_;clear Hb);go_roundw;case rel=>exact⟨k+1,Hr,by go_num,Hh,Hi⟩
          case measure=>simp [intOf];omega
         ·obtain⟨v7,w7,Hb,o7,b7⟩:=Hg.out true (yes_t ⟨Hx.out.1 hz,rfl⟩);have Hh:=hid b7;have Hi:=hid o7;clear Hg o7 b7;go_wp2_with (at_builtin;refine wpList_app2 rfl _ _ _ _ rfl Hb (by rfl) (by rfl) rfl ?_;clear Hb);go_roundw;case rel=>exact⟨k+1,Hr,by go_num,Hh,Hi⟩
          case measure=>simp [intOf];omega
        ·have d0:(C==0)=false:=by simpa using hz
         obtain⟨v7,w7,Hb,o7,b7⟩:=Hg.out false (yes_f (fun h=>hz (Hx.out.2 h.1)));have Hh:=hid b7;have Hi:=hid o7;clear Hg o7 b7;go_wp2_with (at_builtin;refine wpList_app2 rfl _ _ _ _ rfl Hb (by rfl) (by rfl) rfl ?_;clear Hb);go_roundw;case rel=>exact⟨k+1,Hr,by go_num,Hh,Hi⟩
         case measure=>simp [intOf];omega
       ·obtain rfl:k=S.l.length:=by omega
        obtain⟨gg,gc,G4,Gf,Ge⟩:=HO.out.cells;subst G4;rw [gnB_len];rw [gnB_len] at Ge;obtain⟨w5,Hm⟩:∃w5,wr.alloc (.cells #[] 60)=w5:=⟨_,rfl⟩;have b5:Below wr.heap.size wr w5:=by rw [<- Hm];exact zO _ _
        have H5:w5.ownsRow wr.heap.size 60 5 (.slice (some ⟨wr.heap.size,0,none⟩) 0 0) 0 []:=by
         rw [<- Hm];exact World.ownsRow_lit (base:=wr.heap.size) (e:=60) (size:=5) wr #[] 0 zL (by unfold maxLen;omega) rfl
        have bW:=b5;have A7:=(Hj.out.below HB.out Hj.out.lt).below bW (Hj.out.below HB.out Hj.out.lt).lt;have t2:=A7.c0;have t3:=A7.c1;have Ga:=keepS HB.out bW;have Gb:=keepS Hy.out bW;have H8:=hid (l3ChangeC (gnS p fl) [] a c xa d gg gc (some ⟨wr.heap.size,0,none⟩) 0 S w5 Gx.out (PtO.nil S) (H1.out.below Gb) (H3.out.below Gb) (Nat.lt_of_lt_of_le Gf bW.size) (fun i hi=>by
         rw [<- gnB_at hi];exact(bW.cell (p:=⟨gg,i,none⟩) Gf).trans (Ge i hi)) (.inl rfl))
        obtain⟨X,hX⟩:∃X,chX S (dlS (gnS p fl) S.l [])=X:=⟨_,rfl⟩;obtain⟨Y,hY⟩:∃Y,chY S (dlS (gnS p fl) S.l [])=Y:=⟨_,rfl⟩;obtain⟨Cc,Gc⟩:∃Cc,chC S (dlS (gnS p fl) S.l [])=Cc:=⟨_,rfl⟩;rw [hX,hY,Gc] at H8;have Hp:Hid (seX S rep p fl false v=X/\ seY S rep p fl false v=Y/\ seC S rep p fl false v=Cc):=hid (by
         obtain⟨z1,z2,z3⟩:=Kc.out;rw [Gy.out] at z1 z2 z3;exact⟨z1.trans hX,z2.trans hY,z3.trans Gc⟩)
        have H7:=hid Ga;have Gz:Hid (w.heap.size+3<=w5.heap.size):=hid (by have h1:=Ka.out;have h2:=Ga.size;have h3:=Hd.out.size;omega);clear hX hY Gc Gf Ge Ga Gb HO A1 A7 bW H5 k0 k1;have k0:=(Hj.out.below HB.out Hj.out.lt).c0;clear b5 HB;go_wp2_with fail;try rw [Hm]
        clear Hm;refine H8.out.mono ?_;rintro e w4 ⟨ra,rc,rx,rd,Hs,Ht,Hv,Hu,rfl,ox,oy,b4⟩;have H4:=keepS Hd.out (keepS H7.out b4);have Hz:=hid (Ha.out.below H4 Ha.out.lt);have H0:=hid (Hc.out.below H4 Hc.out.lt);have Hw:=hid (keepS Hf.out H4);have Gu:=hid ox;have Gv:=hid oy;clear b4 H4 ox oy H8 t2 t3 k0 Ha Hc Hf;try clear t0 t1
        have Ha:=Hz;have Hc:=H0;have Hf:=Hw;clear Hz H0 Hw;have TB:=twoB Ha.out Hc.out (show w.heap.size+1≠w.heap.size+1+1 by omega) (.slice ra X.l.length rc) (.slice rx X.n rd) (.slice Hs Y.l.length Ht) (.slice Hv Y.n Hu);have r0:=Ha.out.c0;have r1:=Ha.out.c1;have rf:=Ha.out.f;have q0:=TB.1.c0;have q1:=TB.1.c1;have qf:=TB.1.f;have Ho:=hid TB.2;clear TB;go_wp2_with fail;obtain⟨X1,X2⟩:=Ho.out;refine zF (v:=.tuple #[.agg #[.slice ra X.l.length rc,.slice rx X.n rd],.agg #[.slice Hs Y.l.length Ht,.slice Hv Y.n Hu],.int .i64 Cc]) (by simp [results,Tryz.results24,go_sem,X1.c0,X1.c1,X2.c0,X2.c1]) ?_;have hz:=Gz.out;have G3:=below4 Hf.out (show w.heap.size<=w.heap.size+1 by omega) (show w.heap.size<=w.heap.size+1+1 by omega) (.slice ra X.l.length rc) (.slice rx X.n rd) (.slice Hs Y.l.length Ht) (.slice Hv Y.n Hu);rw [Hp.out.1,Hp.out.2.1,Hp.out.2.2];have G1:=snc4 (r1:=w.heap.size+1) (r2:=w.heap.size+1+1) Gu.out (show w.heap.size<=w5.heap.size by omega) (show w.heap.size+1<w5.heap.size by omega) (show w.heap.size+1+1<w5.heap.size by omega) (.slice ra X.l.length rc) (.slice rx X.n rd) (.slice Hs Y.l.length Ht) (.slice Hv Y.n Hu);have G2:=snc4 (r1:=w.heap.size+1) (r2:=w.heap.size+1+1) Gv.out (show w.heap.size<=w5.heap.size by omega) (show w.heap.size+1<w5.heap.size by omega) (show w.heap.size+1+1<w5.heap.size by omega) (.slice ra X.l.length rc) (.slice rx X.n rd) (.slice Hs Y.l.length Ht) (.slice Hv Y.n Hu);first
         | exact⟨ra,rc,rx,rd,Hs,Ht,Hv,Hu,rfl,G1,G2,G3⟩
         | exact⟨ra,rc,rx,rd,Hs,Ht,Hv,⟨Hu,rfl⟩,G1,G2,G3⟩
    ·have HZ:=hid (se_3 (S:=S) (rep:=rep) (p:=p) (fl:=fl) (on:=on) (v:=v) G6.out Hn);by_cases hr:0<=rep/\ rep<8
     ·have Kh:0<=rep:=hr.1;have Ki:rep<8:=hr.2;have Kj:¬rep<0:=by omega
      have Kk:¬8<=rep:=by omega
      cases on with
      | true=>
       obtain rfl:ok=false:=by rw [Gk.out];exact yes_f (fun h=>Hn ⟨hr,fun _=>h.2⟩)
       clear Hn hr;have Hk:=hid (Ha.out.below Hd.out Ha.out.lt);have Hl:=hid (Hc.out.below Hd.out Hc.out.lt);have Hw:=hid (keepS Hf.out Hd.out);clear Ha Hc Hf Hd H9;have Ha:=Hk;have Hc:=Hl;have Hf:=Hw;clear Hk Hl Hw;have TB:=twoB Ha.out Hc.out (show w.heap.size+1≠w.heap.size+1+1 by omega) (.slice none 0 0) (.slice none 0 0) (.slice none 0 0) (.slice none 0 0);have r0:=Ha.out.c0;have r1:=Ha.out.c1;have rf:=Ha.out.f;have q0:=TB.1.c0;have q1:=TB.1.c1;have qf:=TB.1.f;have Ho:=hid TB.2;clear TB;go_wp2_with fail;try rw [H6]
       obtain⟨X1,X2⟩:=Ho.out;refine zF (v:=.tuple #[.agg #[.slice none 0 0,.slice none 0 0],.agg #[.slice none 0 0,.slice none 0 0],.int .i64 3]) (by simp [results,Tryz.results24,go_sem,X1.c0,X1.c1,X2.c0,X2.c1]) ?_;rw [HZ.out.1,HZ.out.2.1,HZ.out.2.2];have G3:=below4 Hf.out (show w.heap.size<=w.heap.size+1 by omega) (show w.heap.size<=w.heap.size+1+1 by omega) (.slice none 0 0) (.slice none 0 0) (.slice none 0 0) (.slice none 0 0);first
        | exact⟨none,0,none,0,none,0,none,0,rfl,SNc.mt _ _ _ _,SNc.mt _ _ _ _,G3⟩
        | exact⟨none,0,none,0,none,0,none,⟨0,rfl⟩,SNc.mt _ _ _ _,SNc.mt _ _ _ _,G3⟩
      | false=>exact absurd ⟨hr,fun h=>by cases h⟩ Hn
     ·by_cases Kj:rep<0
      ·clear Hn hr;have Hk:=hid (Ha.out.below Hd.out Ha.out.lt);have Hl:=hid (Hc.out.below Hd.out Hc.out.lt);have Hw:=hid (keepS Hf.out Hd.out);clear Ha Hc Hf Hd H9;have Ha:=Hk;have Hc:=Hl;have Hf:=Hw;clear Hk Hl Hw;have TB:=twoB Ha.out Hc.out (show w.heap.size+1≠w.heap.size+1+1 by omega) (.slice none 0 0) (.slice none 0 0) (.slice none 0 0) (.slice none 0 0);have r0:=Ha.out.c0;have r1:=Ha.out.c1;have rf:=Ha.out.f;have q0:=TB.1.c0;have q1:=TB.1.c1;have qf:=TB.1.f;have Ho:=hid TB.2;clear TB;go_wp2_with fail;try rw [H6]
       obtain⟨X1,X2⟩:=Ho.out;refine zF (v:=.tuple #[.agg #[.slice none 0 0,.slice none 0 0],.agg #[.slice none 0 0,.slice none 0 0],.int .i64 3]) (by simp [results,Tryz.results24,go_sem,X1.c0,X1.c1,X2.c0,X2.c1]) ?_;rw [HZ.out.1,HZ.out.2.1,HZ.out.2.2];have G3:=below4 Hf.out (show w.heap.size<=w.heap.size+1 by omega) (show w.heap.size<=w.heap.size+1+1 by omega) (.slice none 0 0) (.slice none 0 0) (.slice none 0 0) (.slice none 0 0);first
        | exact⟨none,0,none,0,none,0,none,0,rfl,SNc.mt _ _ _ _,SNc.mt _ _ _ _,G3⟩
        | exact⟨none,0,none,0,none,0,none,⟨0,rfl⟩,SNc.mt _ _ _ _,SNc.mt _ _ _ _,G3⟩
      ·have Kh:0<=rep:=by omega
       have Kk:8<=rep:=by omega
       have Ki:¬rep<8:=by omega
       clear Hn hr;have Hk:=hid (Ha.out.below Hd.out Ha.out.lt);have Hl:=hid (Hc.out.below Hd.out Hc.out.lt);have Hw:=hid (keepS Hf.out Hd.out);clear Ha Hc Hf Hd H9;have Ha:=Hk;have Hc:=Hl;have Hf:=Hw;clear Hk Hl Hw;have TB:=twoB Ha.out Hc.out (show w.heap.size+1≠w.heap.size+1+1 by omega) (.slice none 0 0) (.slice none 0 0) (.slice none 0 0) (.slice none 0 0);have r0:=Ha.out.c0;have r1:=Ha.out.c1;have rf:=Ha.out.f;have q0:=TB.1.c0;have q1:=TB.1.c1;have qf:=TB.1.f;have Ho:=hid TB.2;clear TB;go_wp2_with fail;try rw [H6]
       obtain⟨X1,X2⟩:=Ho.out;refine zF (v:=.tuple #[.agg #[.slice none 0 0,.slice none 0 0],.agg #[.slice none 0 0,.slice none 0 0],.int .i64 3]) (by simp [results,Tryz.results24,go_sem,X1.c0,X1.c1,X2.c0,X2.c1]) ?_;rw [HZ.out.1,HZ.out.2.1,HZ.out.2.2];have G3:=below4 Hf.out (show w.heap.size<=w.heap.size+1 by omega) (show w.heap.size<=w.heap.size+1+1 by omega) (.slice none 0 0) (.slice none 0 0) (.slice none 0 0) (.slice none 0 0);first
        | exact⟨none,0,none,0,none,0,none,0,rfl,SNc.mt _ _ _ _,SNc.mt _ _ _ _,G3⟩
        | exact⟨none,0,none,0,none,0,none,⟨0,rfl⟩,SNc.mt _ _ _ _,SNc.mt _ _ _ _,G3⟩
   ·have i0:(v.size:Int)>200:=by omega
    have HZ:Hid (seX S rep p fl on v=Sx.mt/\ seY S rep p fl on v=Sx.mt/\ seC S rep p fl on v=2):=hid (by
     have e:=ocC_2 (p:=p) (v:=v) Gm.out (fun h=>Gp h.2);have:=se_n (S:=S) (rep:=rep) (p:=p) (fl:=fl) (on:=on) (v:=v) (by rw [e];decide);rw [e] at this;exact this)
    clear Gp;have TB:=twoB Ha.out Hc.out (show w.heap.size+1≠w.heap.size+1+1 by omega) (.slice none 0 0) (.slice none 0 0) (.slice none 0 0) (.slice none 0 0);have r0:=Ha.out.c0;have r1:=Ha.out.c1;have rf:=Ha.out.f;have q0:=TB.1.c0;have q1:=TB.1.c1;have qf:=TB.1.f;have Ho:=hid TB.2;clear TB;go_wp2_with fail;obtain⟨X1,X2⟩:=Ho.out;refine zF (v:=.tuple #[.agg #[.slice none 0 0,.slice none 0 0],.agg #[.slice none 0 0,.slice none 0 0],.int .i64 2]) (by simp [results,Tryz.results24,go_sem,X1.c0,X1.c1,X2.c0,X2.c1]) ?_;rw [HZ.out.1,HZ.out.2.1,HZ.out.2.2];have G3:=below4 Hf.out (show w.heap.size<=w.heap.size+1 by omega) (show w.heap.size<=w.heap.size+1+1 by omega) (.slice none 0 0) (.slice none 0 0) (.slice none 0 0) (.slice none 0 0);first
     | exact⟨none,0,none,0,none,0,none,0,rfl,SNc.mt _ _ _ _,SNc.mt _ _ _ _,G3⟩
     | exact⟨none,0,none,0,none,0,none,⟨0,rfl⟩,SNc.mt _ _ _ _,SNc.mt _ _ _ _,G3⟩
theorem JF.mono {w:World}{B c c':Nat}{J:List Lf}{z:List Ky}{N:List Ky ->Option (Nat×Nat)}{x0:Nat×Nat}(h:JF w B J z N c x0)(hc:c<=c'):JF w B J z N c' x0:=⟨h.tre.mono hc,h.root,h.there⟩
def livV (n:Nat)(o:Option (Nat×Nat)):Value:=.agg #[.map (mF o),.map (mS o),.map (some n)]
def JQ (J:List Lf)(z:List Ky)(c:Nat)(w:World)(e:Ending)(w':World):Prop:=(∃x0 N',e=.returned (.agg #[.map (some x0.1),.map (some x0.2)])/\ JF w' w.heap.size J z N' c x0)/\ Below w.heap.size w w'
def HasAt (v0:World)(n:Nat)(h:Dt ->Bool):Prop:=∀w,Below v0.heap.size v0 w ->∀r q kl,keyOf Tryz.prog 58 (dtV (r,q))=some kl ->Calls Tryz.prog 115 #[.map (some n),.agg #[.int .i64 r,.int .i64 q]] w fun e w''=>e=.returned (.bool (h (r,q)))/\ Below w.heap.size w w''
structure JH (v0:World)(Na Nb:List Ky ->Option (Nat×Nat))(MA MB:List Ky ->Dt ->Option ByteArray)(ca cb na nb:Nat)(hA hB:Dt ->Bool)(J:List Lf):Prop where
 ta:Tre v0 0 Na MA ca
 tb:Tre v0 0 Nb MB cb
 ha:HasAt v0 na hA
 hb:HasAt v0 nb hB
 hJ:∀z,kmF (MB z) (MA z) hA (kmF (MA z) (MB z) hB (fun _=>none))=Mk J J.length z
 hAh:∀z y,Ah J (z++[y]) ->Na (z++[y])≠none \/Nb (z++[y])≠none
theorem MO.ltv {α β:Type}{w:World}{t:TypeId}{kv:α ->Value}{vo:Option β ->Value}{mo:Option Nat}{c k:Nat}{f:α ->Option β}(h:MO w t kv vo mo c f)(hk:w.heap.size<=k):mo≠some k:=fun e=>by have:=h.lt k e;omega
theorem Rng.nomap {α β:Type}{w:World}{t:TypeId}{kv:α ->Value}{vo:Option β ->Value}{mo:Option Nat}{r c cnt:Nat}{f:α ->Option β}{ds:List α}(h:Rng w t kv vo mo r c f ds cnt):∀es cl,w.heap[r]? ≠some (.map es cl):=by
 intro es cl e;cases mo with
 | none=>rw [h.1] at e;cases e
 | some b=>
  obtain⟨D,Hd,⟨Hg,Ha,Hb,Hf,c0,hb,F,hs,hD,Hc,He⟩,h2,h3⟩:=h;rw [Hc] at e;cases e
theorem joinStep {v0:World}{Na Nb:List Ky ->Option (Nat×Nat)}{MA MB:List Ky ->Dt ->Option ByteArray}{ca cb na nb:Nat}{hA hB:Dt ->Bool}{J:List Lf}(H:JH v0 Na Nb MA MB ca cb na nb hA hB J)(z:List Ky)(c':Nat)(hc:ca+cb<=c')(Ju:c'+(ca+cb)<=1048576)
  (hIH:∀y,(Na (z++[y])≠none \/Nb (z++[y])≠none) ->∀w,Below v0.heap.size v0 w ->Calls Tryz.prog 107 #[livV na (Na (z++[y])),livV nb (Nb (z++[y]))] w (JQ J (z++[y]) c' w))
  (w:World) (hw:Below v0.heap.size v0 w):
  Calls Tryz.prog 107 #[livV na (Na z),livV nb (Nb z)] w (JQ J z (c'+(ca+cb)) w):=by
 have Gs:=hid (H.ta.mo_marks z);have Gt:=hid (H.tb.mo_marks z);have Gk:=hid (H.ta.mo_kids z);have G5:=hid (H.tb.mo_kids z);have Ko:Hid (∀(s:ByteArray) (k:Int) (kl:Lit) (w:World),Below v0.heap.size v0 w ->keyOf Tryz.prog 114 (keyV (s,k))=some kl ->Calls Tryz.prog 132 #[livV na (Na z),.agg #[.string s,.int .i64 k]] w fun e w'=>e=.returned (livV na (Na (z++[(s,k)])))/\ Below w.heap.size w w'):=hid (fun s k kl w hw hk=>underC z s k (some na) 0 ca Na MA w kl hk (H.ta.below hw));have Kp:Hid (∀(s:ByteArray) (k:Int) (kl:Lit) (w:World),Below v0.heap.size v0 w ->keyOf Tryz.prog 114 (keyV (s,k))=some kl ->Calls Tryz.prog 132 #[livV nb (Nb z),.agg #[.string s,.int .i64 k]] w fun e w'=>e=.returned (livV nb (Nb (z++[(s,k)])))/\ Below w.heap.size w w'):=hid (fun s k kl w hw hk=>underC z s k (some nb) 0 cb Nb MB w kl hk (H.tb.below hw));have Kw:=hid hIH;have HH:=hid H;have HV:=hid hw;have HC:=hid (And.intro hc Ju);unfold livV at Ko Kp Kw ⊢;obtain⟨a0,Jf⟩:∃u,mF (Na z)=u:=⟨_,rfl⟩;obtain⟨a1,Jg⟩:∃u,mS (Na z)=u:=⟨_,rfl⟩;obtain⟨b0,Jh⟩:∃u,mF (Nb z)=u:=⟨_,rfl⟩;obtain⟨b1,Ji⟩:∃u,mS (Nb z)=u:=⟨_,rfl⟩;rw [Jf,Jg] at Ko ⊢;rw [Jh,Ji] at Kp ⊢;rw [Jg] at Gs;rw [Ji] at Gt;rw [Jf] at Gk;rw [Jh] at G5;clear Jf Jg Jh Ji H hIH hw hc Ju;obtain⟨W,hW⟩:∃W,((w.alloc (.cells #[.map a0,.map a1,.map (some na)] 69)).alloc (.cells #[.map b0,.map b1,.map (some nb)] 69)).alloc (.cells #[.map none,.map none] 65)=W:=⟨_,rfl⟩;have B0:Below w.heap.size w W:=by rw [<- hW];exact(below2 _ _ _).alloc (by simp;omega) _
 have X0:Bx3 W w.heap.size (.map a0) (.map a1) (.map (some na)):=by
  rw [<- hW];exact((Bx3.made w _ _ _ _).below (zO _ _) (Bx3.made w _ _ _ _).lt).below (zO _ _) (by simp;omega)
 have X1:Bx3 W (w.heap.size+1) (.map b0) (.map b1) (.map (some nb)):=by
  rw [<- hW];have:=Bx3.made (w.alloc (.cells #[.map a0,.map a1,.map (some na)] 69)) (.map b0) (.map b1) (.map (some nb)) 69;exact(by simpa using this:Bx3 _ (w.heap.size+1) _ _ _).below (zO _ _) (by simp)
 have X2:Bx2 W (w.heap.size+1+1) (.map none) (.map none):=by
  rw [<- hW];simpa using Bx2.made ((w.alloc (.cells #[.map a0,.map a1,.map (some na)] 69)).alloc (.cells #[.map b0,.map b1,.map (some nb)] 69)) (.map none) (.map none) 65
 have HX:=hid (And.intro X0 (And.intro X1 X2));have Kt:=hid B0;have J1:Hid (W.heap.size=w.heap.size+3):=hid (by rw [<- hW];simp);clear B0 X0 X1 X2;go_enter Tryz.func107,Tryz.ntmps107;go_wp2_with fail;try rw [hW]
 clear hW;refine(newNode W).mono ?_;rintro e w1 ⟨s,s',rfl,Jv,hs,J3,m1,m2,Jt⟩;obtain⟨x0,rfl,rfl⟩:∃x0:Nat×Nat,x0.1=s/\ x0.2=s':=⟨(s,s'),rfl,rfl⟩;obtain⟨w2,Kd⟩:∃w2,w1.alloc (.cells #[.map (some x0.1),.map (some x0.2)] 65)=w2:=⟨_,rfl⟩;have b2:Below w1.heap.size w1 w2:=by rw [<- Kd];exact zO _ _
 have Gq:=keepS Jt b2;have H1:JB w2 w.heap.size w1.heap.size a0 a1 (some na) b0 b1 (some nb) x0:=⟨HX.out.1.below Gq HX.out.1.lt,HX.out.2.1.below Gq HX.out.2.1.lt,HX.out.2.2.below Gq HX.out.2.2.lt,by rw [<- Kd];exact Bx2.made _ _ _ _⟩;have Jc:Hid (Below v0.heap.size v0 W):=hid (HV.out.trans (Kt.out.mono HV.out.size));have V2:Below v0.heap.size v0 w2:=Jc.out.trans (Gq.mono Jc.out.size);have Jq:=hid (MapF.same m1 (b2.block _ m1.lt));have Hb:Hid (x0.1<w1.heap.size/\ x0.2<w1.heap.size/\ x0.1≠x0.2/\ w.heap.size+3<=x0.1/\ w.heap.size+3<=x0.2/\ v0.heap.size<=x0.1/\ v0.heap.size<=x0.2):=hid (by
  have h1:=J1.out;have h2:=Jc.out.size;exact⟨m1.lt,m2.lt,Jv,by omega,by omega,by omega,by omega⟩)
 have Gu:Hid (a1≠some x0.2/\ b1≠some x0.2/\ a0≠some x0.1/\ b0≠some x0.1):=hid ⟨Gs.out.ltv Hb.out.2.2.2.2.2.2,Gt.out.ltv Hb.out.2.2.2.2.2.2,Gk.out.ltv Hb.out.2.2.2.2.2.1,G5.out.ltv Hb.out.2.2.2.2.2.1⟩;have G6:=hid (keepMarksC a0 a1 b0 b1 (some x0.1) (some na) x0.2 nb ca cb 0 (MA z) (MB z) (fun _=>none) hB w2 (Gs.out.below V2 (fun b e=>Gs.out.lt b e)) (Gt.out.below V2 (fun b e=>Gt.out.lt b e)) (MapF.same m2 (b2.block _ m2.lt)) Gu.out.1 Gu.out.2.1 (by have:=HC.out;omega)
  (fun w' hg=>HH.out.hb w' (V2.grown hg V2.size (fun k e=>by cases e;exact Hb.out.2.2.2.2.2.2))))
 have p0:=H1.a.c0;have p1:=H1.a.c1;have p2:=H1.a.c2;have p3:=H1.b.c0;have p4:=H1.b.c1;have p5:=H1.b.c2;have p6:=H1.j.c0;have p7:=H1.j.c1;have G3:=hid H1;have K9:=hid V2;have Ku:=hid (Kt.out.trans (Gq.mono Kt.out.size));have Gl:Hid (w1.heap.size<w2.heap.size):=hid (by rw [<- Kd];simp);clear H1 V2 b2 Gq Jv hs J3 m1 m2 Jt;go_wp2_with fail;try rw [Kd]
 clear Kd;refine G6.out.mono ?_;rintro e w3 ⟨rfl,m3,g3⟩;have nr:∀k,some x0.2=some k ->k≠w.heap.size/\ k≠w.heap.size+1/\ k≠w.heap.size+1+1/\ k≠w1.heap.size:=fun k e=>by
  have h1:=Hb.out;injection e with e;omega
 have H2:=G3.out.gr g3 nr;have V3:Below v0.heap.size v0 w3:=K9.out.grown g3 K9.out.size (fun k e=>by cases e;exact Hb.out.2.2.2.2.2.2);have G7:=hid (keepMarksC b0 b1 a0 a1 (some x0.1) (some nb) x0.2 na cb ca (0+ca) (MB z) (MA z) (kmF (MA z) (MB z) hB (fun _=>none)) hA w3 (Gt.out.below V3 (fun b e=>Gt.out.lt b e)) (Gs.out.below V3 (fun b e=>Gs.out.lt b e)) m3 Gu.out.2.1 Gu.out.1 (by have:=HC.out;omega)
  (fun w' hg=>HH.out.ha w' (V3.grown hg V3.size (fun k e=>by cases e;exact Hb.out.2.2.2.2.2.2))))
 clear p0 p1 p2 p3 p4 p5 p6 p7;have p0:=H2.a.c0;have p1:=H2.a.c1;have p2:=H2.a.c2;have p3:=H2.b.c0;have p4:=H2.b.c1;have p5:=H2.b.c2;have p6:=H2.j.c0;have p7:=H2.j.c1;have G4:=hid H2;have Ja:=hid V3;have Jo:=hid g3;have Jy:=hid nr;clear H2 V3 m3 g3 G6 nr;go_wp2_with fail;refine G7.out.mono ?_;rintro e w4 ⟨rfl,m4,g4⟩;have Jd:=G4.out.gr g4 Jy.out;have V4:Below v0.heap.size v0 w4:=Ja.out.grown g4 Ja.out.size (fun k e=>by cases e;exact Hb.out.2.2.2.2.2.2);have Ks:=Jo.out.trans g4;have Jb:Hid (Below w.heap.size w w4):=hid (Ku.out.grown Ks Ku.out.size (fun k e=>by have:=Hb.out;cases e;omega));have Km:Hid (w1.heap.size<w4.heap.size):=hid (Nat.lt_of_lt_of_le Gl.out Ks.size);have Jp:Hid (JT w4 w.heap.size J z (fun _=>False) (fun r=>if r=[] then some x0 else none) c' x0):=hid ((JT.start (MapF.same Jq.out (Ks.block _ (Nat.lt_trans Hb.out.1 Gl.out) (fun e=>Hb.out.2.2.1 (by injection e)))) (by rw [<- HH.out.hJ z];exact m4) Hb.out.2.2.1 (by have:=Hb.out;omega)).mono (by have:=HC.out;omega));clear p0 p1 p2 p3 p4 p5 p6 p7;have p0:=Jd.a.c0;have Kz:=hid Jd;have Kq:=hid V4;have K0:=hid (Gk.out.below V4 (fun b e=>Gk.out.lt b e));have Jr:Hid (∀k,some x0.1=some k ->k≠w.heap.size/\ k≠w.heap.size+1/\ k≠w.heap.size+1+1/\ k≠w1.heap.size):=hid (fun k e=>by
  have h1:=Hb.out;injection e with e;omega)
 have Kn:Hid (w.heap.size<=w4.heap.size):=hid Jb.out.size;have J6:Hid (∀b,a0=some b ->b<v0.heap.size):=hid (fun b e=>Gk.out.lt b e);have J7:Hid (∀b,b0=some b ->b<v0.heap.size):=hid (fun b e=>G5.out.lt b e);clear Jd V4 m4 g4 Ks G7 Jo K9 Ja G3 G4 Jq Ku Gl;go_wp2_with (at_range;refine wpList_range_O _ rfl _ 62 rfl 114 65 keyKeyed Tryz.underlying62 keyV nodV a0 ca (fun y=>Na (z++[y])) rfl K0.out ?_;intro w0 Je Hx H7 Jk);have Gz:Hid (w4.grownBy w0 (some x0.1)):=hid (H7.but _);have G2:Hid (JT w0 w.heap.size J z (fun u=>u∈([]:List Ky)) (fun r=>if r=[] then some x0 else none) (c'+([]:List Ky).length) x0):=hid ((Jp.out.kept' (r:=w4.heap.size) (H7.but _) (fun es cl e=>by have:=(Array.getElem?_eq_some_iff.1 e).1;omega)).congr (fun u=>by simp));have Hp:=hid (Kz.out.gr H7 (fun k e=>by cases e));clear H7 Jk Jp p0;try go_frame
 go_loopw [] (fun wr=>∃(ds:List Ky) (Go:Nat) (N:List Ky ->Option (Nat×Nat)),Rng wr 114 keyV nodV a0 w4.heap.size ca (fun y=>Na (z++[y])) ds Go/\ Hid (JT wr w.heap.size J z (fun u=>u∈ds) N (c'+ds.length) x0)/\ Hid (JB wr w.heap.size w1.heap.size a0 a1 (some na) b0 b1 (some nb) x0)/\ Hid (w4.grownBy wr (some x0.1))) (fun wr=>wr.rangeLeft (a0.getD 0) w4.heap.size);case atStart=>exact⟨[],_,_,Hx,G2,Hp,Gz⟩
 case round=>
  clear Hx G2 Gz Hp;obtain⟨ds,Go,N,H9,Gr,Ha,Gc⟩:=hrel;have Hc:=hid H9;go_wp2_with (at_next;refine wpList_next_O _ rfl _ rfl 114 keyKeyed keyV (fun _ _=>keyV_inj) (fun key kl hk=>keyOf_key hk) nodV a0 w4.heap.size ca (fun y=>Na (z++[y])) ds Go rfl H9 ?_ ?_)
  ·intro hk;have K2:=hid hk;have Jn:Hid (ds.length<=ca):=hid (by have:=Hc.out.len;omega);obtain⟨V,hV⟩:∃V,V=wr:=⟨_,rfl⟩;subst hV;have V5:Below v0.heap.size v0 V:=Kq.out.grown Gc.out Kq.out.size (fun k e=>by have:=Hb.out;cases e;omega);have Js:=hid V5;have Gn:Hid (Below w.heap.size w V):=hid (Jb.out.grown Gc.out Jb.out.size (fun k e=>by have:=Hb.out;cases e;omega));have K7:Hid (w1.heap.size<V.heap.size):=hid (Nat.lt_of_lt_of_le Km.out Gc.out.size);have K8:Hid (w.heap.size<=V.heap.size):=hid Gn.out.size;have K1:=hid (G5.out.below V5 (fun b e=>G5.out.lt b e));have p0:=Ha.out.b.c0;clear hk H9 V5 Hc Kn;go_wp2_with (at_range;refine wpList_range_O _ rfl _ 62 rfl 114 65 keyKeyed Tryz.underlying62 keyV nodV b0 cb (fun y=>Nb (z++[y])) rfl K1.out ?_;intro w0 Je Hx H7 Jk);have Gz:Hid (V.grownBy w0 (some x0.1)):=hid (H7.but _);have G2:Hid (JT w0 w.heap.size J z (fun u=>u∈ds \/u∈([]:List Ky)) N (c'+ds.length+([]:List Ky).length) x0):=hid ((Gr.out.kept' (r:=V.heap.size) (H7.but _) (fun es cl e=>by have:=(Array.getElem?_eq_some_iff.1 e).1;omega)).congr (fun u=>by simp));have Hp:=hid (Ha.out.gr H7 (fun k e=>by cases e));clear H7 Jk p0;try go_frame
   clear Gc Gr Ha;go_loopw [] (fun wr=>∃(Ho:List Ky) (Go:Nat) (N:List Ky ->Option (Nat×Nat)),Rng wr 114 keyV nodV b0 V.heap.size cb (fun y=>Nb (z++[y])) Ho Go/\ Hid (JT wr w.heap.size J z (fun u=>u∈ds \/u∈Ho) N (c'+ds.length+Ho.length) x0)/\ Hid (JB wr w.heap.size w1.heap.size a0 a1 (some na) b0 b1 (some nb) x0)/\ Hid (V.grownBy wr (some x0.1))) (fun wr=>wr.rangeLeft (b0.getD 0) V.heap.size);case atStart=>exact⟨[],_,_,Hx,G2,Hp,Gz⟩
   case round=>
    clear Hx G2 Gz Hp;obtain⟨Ho,Go,N,H9,Gr,Ha,Gc⟩:=hrel;have Hc:=hid H9;go_wp2_with (at_next;refine wpList_next_O _ rfl _ rfl 114 keyKeyed keyV (fun _ _=>keyV_inj) (fun key kl hk=>keyOf_key hk) nodV b0 V.heap.size cb (fun y=>Nb (z++[y])) Ho Go rfl H9 ?_ ?_)
    ·intro hk;have HE:Hid (JF wr w.heap.size J z N (c'+(ca+cb)) x0):=hid ((Gr.out.full (fun y hy=>by
      rcases HH.out.hAh z y hy with h|h
      ·exact .inl ((K2.out.2 y).2 h)
      ·exact .inr ((hk.2 y).2 h))).mono (by have h1:=Hc.out.len;have h2:=Jn.out;omega))
     have Jw:Hid (Below w.heap.size w wr):=hid (Gn.out.grown Gc.out Gn.out.size (fun k e=>by have:=Hb.out;cases e;omega));have r0:=Ha.out.r.c0;have r1:=Ha.out.r.c1;have f0:=Ha.out.r.f 0;have f1:=Ha.out.r.f 1;have j0:=Ha.out.j.c0;have j1:=Ha.out.j.c1;have Jm:=hid (Ha.out.r.set (.map (some x0.1)) (.map (some x0.2)));clear hk H9;go_wp2_with fail;have s0:=Jm.out.c0;have s1:=Jm.out.c1;refine zF (v:=.agg #[.map (some x0.1),.map (some x0.2)]) (by simp [results,Tryz.results107,go_sem,s0,s1]) ⟨⟨x0,N,rfl,?_⟩,?_⟩
     ·have hb:=Ha.out.r;exact⟨(HE.out.tre.set _ hb.c0).set (v:=.map none) _ (by simp [World.cell?_setCell_other,hb.c1]),HE.out.root,HE.out.there⟩
     ·exact(Jw.out.setCell (by simp;omega) _).setCell (by simp;omega) _
    ·intro xs xk J4 J5 w5 Gp bm Kb G8 Kc kl G9 Hy Hu H8 Jl Jj;have K6:Hid (Na (z++[(xs,xk)])≠none \/Nb (z++[(xs,xk)])≠none):=hid (Or.inr (by rw [show Nb (z++[(xs,xk)])=_ from G8];simp));have Gd:=hid G9;have Kv:Hid (c'+ds.length+Ho.length<1048576):=hid (by have h1:=Hc.out.len;have h2:=HC.out;have h3:=Jn.out;omega);have Kl:Hid (∀w9,Rng w9 114 keyV nodV b0 V.heap.size cb (fun y=>Nb (z++[y])) (Ho++[(xs,xk)]) Gp ->w9.rangeLeft (b0.getD 0) V.heap.size<wr.rangeLeft (b0.getD 0) V.heap.size):=hid (fun w9 h9=>by
      have h1:=Hc.out;rw [Kb] at h9 h1 ⊢;show w9.rangeLeft bm _<wr.rangeLeft bm _;rw [h9.left_eq,h1.left_eq];exact Hu)
     have Jz:=hid Kc;have G0:Hid (V.grownBy w5 (some x0.1)):=hid (Gc.out.andThen H8 (fun j e=>by cases e;exact .inl zL));have Kk:=hid (Gr.out.kept' H8 Hc.out.nomap);have Gj:=hid (Ha.out.gr H8 (fun k e=>by have h1:=K7.out;have h2:=Hb.out;cases e;omega));have Hz:=hid Hy;obtain⟨Hn,Ke⟩:∃Hn,w5.alloc (.cells #[.string xs,.int .i64 xk] 114)=Hn:=⟨_,rfl⟩;have Kr:Below w5.heap.size w5 Hn:=by rw [<- Ke];exact zO _ _
     have H3:Hid (Bx2 Hn w5.heap.size (.string xs) (.int .i64 xk)):=hid (by rw [<- Ke];exact Bx2.made _ _ _ _);have Hq:=hid (Gj.out.below Kr);have Gf:Hid (V.grownBy Hn (some x0.1)):=hid (G0.out.trans (below_gr Kr _));have Gm:Hid (Below v0.heap.size v0 Hn):=hid (Js.out.grown Gf.out Js.out.size (fun k e=>by have:=Hb.out;cases e;omega));have Ka:=(Gk.out.below Gm.out (fun b e=>Gk.out.lt b e)).look_ok keyKeyed Tryz.underlying62 (zeroNode Hn) (x:=(xs,xk)) Gd.out;have q0:=Hq.out.a.c0;have q1:=H3.out.c0;have q2:=H3.out.c1;have Gv:=hid Kr;clear G8 Kc G9 H9 Hy Hu H8 Jl Kb Kr;dsimp only [keyV,nodV] at Jj Ka ⊢;cases hna:Na (z++[(xs,xk)]) with
     | some y9=>
      rw [hna] at Ka;obtain⟨w6,Ga⟩:∃w6,Hn.alloc (.cells #[.map (some y9.1),.map (some y9.2)] 65)=w6:=⟨_,rfl⟩;have b6:Below Hn.heap.size Hn w6:=by rw [<- Ga];exact zO _ _
      have B6:=keepS Gv.out b6;have H0:=hid (Hz.out.same (fun b e=>B6.block b (Hz.out.mlt b e)) (B6.block _ Hz.out.lt));have Gi:=hid (Kk.out.below B6);have Hf:=hid (Hq.out.below b6);have Gb:Hid (V.grownBy w6 (some x0.1)):=hid (Gf.out.trans (below_gr b6 _));have Jx:Hid ((xs,xk)∈ds):=hid ((K2.out.2 _).2 (by show Na (z++[(xs,xk)])≠none;rw [hna];simp));clear hna b6 B6;dsimp only [Option.isSome] at Ka;go_wp2_with fail;try rw [Ga]
      go_roundw;case rel=>exact⟨_,_,N,H0.out,hid ((Gi.out.congr (fun u=>by
       constructor
       ·rintro(h|h)
        ·exact .inl h
        ·exact .inr (by simp [h])
       ·rintro(h|h)
        ·exact .inl h
        ·rcases List.mem_append.1 h with h|h
         ·exact .inr h
         ·rw [List.mem_singleton.1 h];exact .inl Jx.out)).mono (by simp)),Hf,Gb⟩
      case measure=>exact Kl.out w6 H0.out
     | none=>
      rw [hna] at Ka;have K5:Hid (¬((xs,xk)∈ds \/(xs,xk)∈Ho)):=hid (fun h=>h.elim (fun h=>(K2.out.2 _).1 h hna) Jz.out);obtain⟨w6,Ga⟩:∃w6,Hn.alloc (.cells #[.map none,.map none] 65)=w6:=⟨_,rfl⟩;have b6:Below Hn.heap.size Hn w6:=by rw [<- Ga];exact zO _ _
      have B6:=keepS Gv.out b6;have H0:=hid (Hz.out.same (fun b e=>B6.block b (Hz.out.mlt b e)) (B6.block _ Hz.out.lt));have Gi:=hid (Kk.out.below B6);have Hf:=hid (Hq.out.below b6);have H4:=hid (H3.out.below b6 H3.out.lt);have Gb:Hid (V.grownBy w6 (some x0.1)):=hid (Gf.out.trans (below_gr b6 _));have Hk:Hid (Below v0.heap.size v0 w6):=hid (Gm.out.trans (b6.mono Gm.out.size));have K4:Hid (∀k,some x0.1=some k ->k≠w5.heap.size):=hid (fun k e=>by have h1:=Hb.out;have h2:=K7.out;have h3:=G0.out.size;cases e;omega);have K3:Hid (∀b,b0=some b ->some x0.1≠some b):=hid (fun b e h=>Gu.out.2.2.2 (by rw [e,h]));have Kx:Hid (some x0.1≠some V.heap.size):=hid (fun e=>by have h1:=Hb.out;have h2:=K7.out;injection e with e;omega);have J0:=hid Ga;clear b6 B6 hna Ga;dsimp only [Option.isSome] at Ka;have Kn:=K8;obtain⟨Kg,Hg⟩:∃u,mF (Na (z++[(xs,xk)]))=u:=⟨_,rfl⟩;obtain⟨Kh,Hh⟩:∃u,mS (Na (z++[(xs,xk)]))=u:=⟨_,rfl⟩;obtain⟨Ki,Hi⟩:∃u,mF (Nb (z++[(xs,xk)]))=u:=⟨_,rfl⟩;obtain⟨Kj,Hj⟩:∃u,mS (Nb (z++[(xs,xk)]))=u:=⟨_,rfl⟩;have Gw:Hid (∀w1,Below w6.heap.size w6 w1 ->Calls Tryz.prog 132 #[.agg #[.map a0,.map a1,.map (some na)],.agg #[.string xs,.int .i64 xk]] w1 fun e w'=>e=.returned (.agg #[.map Kg,.map Kh,.map (some na)])/\ Below w1.heap.size w1 w'):=hid (fun w1 b1=>by have:=Ko.out xs xk kl w1 (Hk.out.trans (b1.mono Hk.out.size)) Gd.out;rw [Hg,Hh] at this;exact this);have Gx:Hid (∀w1,Below w6.heap.size w6 w1 ->Calls Tryz.prog 132 #[.agg #[.map b0,.map b1,.map (some nb)],.agg #[.string xs,.int .i64 xk]] w1 fun e w'=>e=.returned (.agg #[.map Ki,.map Kj,.map (some nb)])/\ Below w1.heap.size w1 w'):=hid (fun w1 b1=>by have:=Kp.out xs xk kl w1 (Hk.out.trans (b1.mono Hk.out.size)) Gd.out;rw [Hi,Hj] at this;exact this);have Gy:Hid (∀w1,Below w6.heap.size w6 w1 ->Calls Tryz.prog 107 #[.agg #[.map Kg,.map Kh,.map (some na)],.agg #[.map Ki,.map Kj,.map (some nb)]] w1 (JQ J (z++[(xs,xk)]) c' w1)):=hid (fun w1 b1=>by have:=Kw.out (xs,xk) K6.out w1 (Hk.out.trans (b1.mono Hk.out.size));rw [Hg,Hh,Hi,Hj] at this;exact this);have Hs:Hid (∀w',Below w6.heap.size w6 w' ->(w'.cell? ⟨w1.heap.size,0,none⟩=some (.map (some x0.1))/\ w'.cell? ⟨w1.heap.size,1,none⟩=some (.map (some x0.2))/\ w'.cell? ⟨w5.heap.size,0,none⟩=some (.string xs)/\ w'.cell? ⟨w5.heap.size,1,none⟩=some (.int .i64 xk)/\ w'.cell? ⟨w.heap.size,0,none⟩=some (.map a0)/\ w'.cell? ⟨w.heap.size,1,none⟩=some (.map a1)/\ w'.cell? ⟨w.heap.size,2,none⟩=some (.map (some na))/\ w'.cell? ⟨w.heap.size+1,0,none⟩=some (.map b0)/\ w'.cell? ⟨w.heap.size+1,1,none⟩=some (.map b1)/\ w'.cell? ⟨w.heap.size+1,2,none⟩=some (.map (some nb)))):=hid (fun w1 b1=>(Hf.out.below b1).sees (H4.out.below b1 H4.out.lt));have G1:Hid (∀w9 x1 N1,Below w6.heap.size w6 w9 ->∀B,JF w9 B J (z++[(xs,xk)]) N1 c' x1 ->Calls Tryz.prog 131 #[.agg #[.map (some x0.1),.map (some x0.2)],.agg #[.string xs,.int .i64 xk],.agg #[.map (some x1.1),.map (some x1.2)]] w9 fun e w'=>e=.returned (.tuple #[])/\ w9.grownBy w' (some x0.1)/\
        (Bears (fun u=>N1 [u]) (Mk J J.length (z++[(xs,xk)])) ->MapF w' 114 keyV nodV x0.1 (c'+ds.length+Ho.length+1) (updF (fun u=>N [u]) (xs,xk) (some x1)))/\ (¬Bears (fun u=>N1 [u]) (Mk J J.length (z++[(xs,xk)])) ->Below w9.heap.size w9 w')):=hid (fun w9 x1 N1 b9 B h1=>by
       have hj:=Gi.out.below b9;have H6:=h1.mono (show c'<=c'+ds.length+Ho.length by omega);exact hangC x0 x1 xs xk (c'+ds.length+Ho.length) (fun u=>N [u]) (fun u=>N1 [u]) (Mk J J.length (z++[(xs,xk)])) w9 kl Gd.out (hj.tre.kids [] x0 hj.root) (H6.tre.kids [] x1 H6.root) ((H6.tre.marks [] x1 H6.root).ext fun d=>by simp) Kv.out)
      clear Hg Hh Hi Hj;go_wp2_with fail;rw [J0.out];refine zR (S:=fun w'=>w'.cell? ⟨w1.heap.size,0,none⟩=some (.map (some x0.1))/\ w'.cell? ⟨w1.heap.size,1,none⟩=some (.map (some x0.2))/\ w'.cell? ⟨w5.heap.size,0,none⟩=some (.string xs)/\ w'.cell? ⟨w5.heap.size,1,none⟩=some (.int .i64 xk)/\ w'.cell? ⟨w.heap.size,0,none⟩=some (.map a0)/\ w'.cell? ⟨w.heap.size,1,none⟩=some (.map a1)/\ w'.cell? ⟨w.heap.size,2,none⟩=some (.map (some na))/\ w'.cell? ⟨w.heap.size+1,0,none⟩=some (.map b0)/\ w'.cell? ⟨w.heap.size+1,1,none⟩=some (.map b1)/\ w'.cell? ⟨w.heap.size+1,2,none⟩=some (.map (some nb))) (Hs.out _ zI.drew) (fun qh=> ?_);refine tZ 0 55 ?_;refine tZ 1 56 ?_;refine tZ 2 57 ?_;refine tZ 3 58 ?_;refine tZ 5 60 ?_;refine tZ 6 61 ?_;refine cZ 4 ?_;intro K hK;go_simp;refine(Gw.out _ zI.drew).mono ?_;rintro e w7 ⟨rfl,b7⟩;have H5:Below w6.heap.size w6 w7:=⟨b7.os,b7.tape,b7.output,b7.size,b7.block⟩;refine hK.out _ _ (Hs.out _ H5) (fun qh=> ?_);clear hK K;try simp only [zP]
      refine cZ 7 ?_;intro K hK;go_simp;refine(Gx.out _ H5).mono ?_;rintro e w8 ⟨rfl,b8⟩;have Hl:=keepS H5 b8;refine hK.out _ _ (Hs.out _ Hl) (fun qh=> ?_);clear hK K;try simp only [zP]
      refine cZ 8 ?_;intro K hK;go_simp;refine(Gy.out _ Hl).mono ?_;rintro e w9 ⟨⟨x1,N1,rfl,h1⟩,b9⟩;have He:=keepS Hl b9;refine hK.out _ _ (Hs.out _ He) (fun qh=> ?_);clear hK K;try simp only [zP]
      have Gg:=hid h1;clear h1;refine cZ 9 ?_;intro K hK;go_simp;refine(G1.out w9 x1 N1 He _ Gg.out).mono ?_;rintro e Kf ⟨rfl,Hm,Hv,Hw⟩;have Hd:=hid ((Hf.out.below He).gr Hm Jr.out);refine hK.out _ _ (Hd.out.sees ((H4.out.below He H4.out.lt).gr Hm K4.out)) (fun qh=> ?_);clear hK K;try simp only [zP]
      refine zD ?_;obtain⟨J2,Ht⟩:=(Gi.out.below Hl).round b9 (Gg.out.mono (show c'<=c'+ds.length+Ho.length by omega)) (Nat.le_trans (Nat.le_trans Kn.out Gb.out.size) Hl.size) K5.out Hm Hv Hw;have Ge:Hid (V.grownBy Kf (some x0.1)):=hid ((Gb.out.trans (below_gr He _)).trans Hm);have Hr:=hid ((H0.out.same (fun b e=>He.block b (H0.out.mlt b e)) (He.block _ H0.out.lt)).kept Hm K3.out Kx.out);have Gh:=hid Ht;clear qh b7 H5 b8 Hl b9 He Hm Hv Hw Ht Hs Gw Gx Gy G1 Gg;go_wp2_with fail;go_roundw;case rel=>exact⟨_,_,_,Hr.out,hid (by simpa [Nat.add_assoc] using Gh.out.congr (fun u=>by simp [or_assoc])),Hd,Ge⟩
      case measure=>exact Kl.out Kf Hr.out
  ·intro xs xk J4 J5 w5 Gp bm Kb G8 Kc kl G9 Hy Hu H8 Jl Jj;have K6:Hid (Na (z++[(xs,xk)])≠none \/Nb (z++[(xs,xk)])≠none):=hid (Or.inl (by rw [show Na (z++[(xs,xk)])=_ from G8];simp));have K5:Hid (¬(xs,xk)∈ds):=hid Kc;have Gd:=hid G9;have Kv:Hid (c'+ds.length<1048576):=hid (by have h1:=Hc.out.len;have h2:=HC.out;omega);have Kl:Hid (∀w9,Rng w9 114 keyV nodV a0 w4.heap.size ca (fun y=>Na (z++[y])) (ds++[(xs,xk)]) Gp ->w9.rangeLeft (a0.getD 0) w4.heap.size<wr.rangeLeft (a0.getD 0) w4.heap.size):=hid (fun w9 h9=>by
    have h1:=Hc.out;rw [Kb] at h9 h1 ⊢;show w9.rangeLeft bm _<wr.rangeLeft bm _;rw [h9.left_eq,h1.left_eq];exact Hu)
   have G0:Hid (w4.grownBy w5 (some x0.1)):=hid (Gc.out.andThen H8 (fun j e=>by cases e;exact .inl zL));have Kk:=hid (Gr.out.kept' H8 Hc.out.nomap);have Gj:=hid (Ha.out.gr H8 (fun k e=>by have h1:=Km.out;have h2:=Hb.out;cases e;omega));have Hz:=hid Hy;obtain⟨w6,Ga⟩:∃w6,w5.alloc (.cells #[.string xs,.int .i64 xk] 114)=w6:=⟨_,rfl⟩;have b6:Below w5.heap.size w5 w6:=by rw [<- Ga];exact zO _ _
   have H4:Hid (Bx2 w6 w5.heap.size (.string xs) (.int .i64 xk)):=hid (by rw [<- Ga];exact Bx2.made _ _ _ _);have H0:=hid (Hz.out.same (fun b e=>b6.block b (Hz.out.mlt b e)) (b6.block _ Hz.out.lt));have Gi:=hid (Kk.out.below b6);have Hf:=hid (Gj.out.below b6);have Gb:Hid (w4.grownBy w6 (some x0.1)):=hid (G0.out.trans (below_gr b6 _));have Hk:Hid (Below v0.heap.size v0 w6):=hid (Kq.out.grown Gb.out Kq.out.size (fun k e=>by have:=Hb.out;cases e;omega));have K4:Hid (∀k,some x0.1=some k ->k≠w5.heap.size):=hid (fun k e=>by have h1:=Hb.out;have h2:=Km.out;have h3:=G0.out.size;cases e;omega);have K3:Hid (∀b,a0=some b ->some x0.1≠some b):=hid (fun b e h=>Gu.out.2.2.1 (by rw [e,h]));have Kx:Hid (some x0.1≠some w4.heap.size):=hid (fun e=>by have h1:=Hb.out;have h2:=Km.out;injection e with e;omega);clear G8 Kc G9 H9 Hy Hu H8 Jl Kb b6;dsimp only [keyV,nodV] at Jj ⊢;obtain⟨Kg,Hg⟩:∃u,mF (Na (z++[(xs,xk)]))=u:=⟨_,rfl⟩;obtain⟨Kh,Hh⟩:∃u,mS (Na (z++[(xs,xk)]))=u:=⟨_,rfl⟩;obtain⟨Ki,Hi⟩:∃u,mF (Nb (z++[(xs,xk)]))=u:=⟨_,rfl⟩;obtain⟨Kj,Hj⟩:∃u,mS (Nb (z++[(xs,xk)]))=u:=⟨_,rfl⟩;have Gw:Hid (∀w1,Below w6.heap.size w6 w1 ->Calls Tryz.prog 132 #[.agg #[.map a0,.map a1,.map (some na)],.agg #[.string xs,.int .i64 xk]] w1 fun e w'=>e=.returned (.agg #[.map Kg,.map Kh,.map (some na)])/\ Below w1.heap.size w1 w'):=hid (fun w1 b1=>by have:=Ko.out xs xk kl w1 (Hk.out.trans (b1.mono Hk.out.size)) Gd.out;rw [Hg,Hh] at this;exact this);have Gx:Hid (∀w1,Below w6.heap.size w6 w1 ->Calls Tryz.prog 132 #[.agg #[.map b0,.map b1,.map (some nb)],.agg #[.string xs,.int .i64 xk]] w1 fun e w'=>e=.returned (.agg #[.map Ki,.map Kj,.map (some nb)])/\ Below w1.heap.size w1 w'):=hid (fun w1 b1=>by have:=Kp.out xs xk kl w1 (Hk.out.trans (b1.mono Hk.out.size)) Gd.out;rw [Hi,Hj] at this;exact this);have Gy:Hid (∀w1,Below w6.heap.size w6 w1 ->Calls Tryz.prog 107 #[.agg #[.map Kg,.map Kh,.map (some na)],.agg #[.map Ki,.map Kj,.map (some nb)]] w1 (JQ J (z++[(xs,xk)]) c' w1)):=hid (fun w1 b1=>by have:=Kw.out (xs,xk) K6.out w1 (Hk.out.trans (b1.mono Hk.out.size));rw [Hg,Hh,Hi,Hj] at this;exact this);have Hs:Hid (∀w',Below w6.heap.size w6 w' ->(w'.cell? ⟨w1.heap.size,0,none⟩=some (.map (some x0.1))/\ w'.cell? ⟨w1.heap.size,1,none⟩=some (.map (some x0.2))/\ w'.cell? ⟨w5.heap.size,0,none⟩=some (.string xs)/\ w'.cell? ⟨w5.heap.size,1,none⟩=some (.int .i64 xk)/\ w'.cell? ⟨w.heap.size,0,none⟩=some (.map a0)/\ w'.cell? ⟨w.heap.size,1,none⟩=some (.map a1)/\ w'.cell? ⟨w.heap.size,2,none⟩=some (.map (some na))/\ w'.cell? ⟨w.heap.size+1,0,none⟩=some (.map b0)/\ w'.cell? ⟨w.heap.size+1,1,none⟩=some (.map b1)/\ w'.cell? ⟨w.heap.size+1,2,none⟩=some (.map (some nb)))):=hid (fun w1 b1=>(Hf.out.below b1).sees (H4.out.below b1 H4.out.lt));have G1:Hid (∀w9 x1 N1,Below w6.heap.size w6 w9 ->∀B,JF w9 B J (z++[(xs,xk)]) N1 c' x1 ->Calls Tryz.prog 131 #[.agg #[.map (some x0.1),.map (some x0.2)],.agg #[.string xs,.int .i64 xk],.agg #[.map (some x1.1),.map (some x1.2)]] w9 fun e w'=>e=.returned (.tuple #[])/\ w9.grownBy w' (some x0.1)/\
     (Bears (fun u=>N1 [u]) (Mk J J.length (z++[(xs,xk)])) ->MapF w' 114 keyV nodV x0.1 (c'+ds.length+1) (updF (fun u=>N [u]) (xs,xk) (some x1)))/\ (¬Bears (fun u=>N1 [u]) (Mk J J.length (z++[(xs,xk)])) ->Below w9.heap.size w9 w')):=hid (fun w9 x1 N1 b9 B h1=>by
    have hj:=Gi.out.below b9;have H6:=h1.mono (show c'<=c'+ds.length by omega);exact hangC x0 x1 xs xk (c'+ds.length) (fun u=>N [u]) (fun u=>N1 [u]) (Mk J J.length (z++[(xs,xk)])) w9 kl Gd.out (hj.tre.kids [] x0 hj.root) (H6.tre.kids [] x1 H6.root) ((H6.tre.marks [] x1 H6.root).ext fun d=>by simp) Kv.out)
   clear Hg Hh Hi Hj;go_wp2_with fail;refine zR (S:=fun w'=>w'.cell? ⟨w1.heap.size,0,none⟩=some (.map (some x0.1))/\ w'.cell? ⟨w1.heap.size,1,none⟩=some (.map (some x0.2))/\ w'.cell? ⟨w5.heap.size,0,none⟩=some (.string xs)/\ w'.cell? ⟨w5.heap.size,1,none⟩=some (.int .i64 xk)/\ w'.cell? ⟨w.heap.size,0,none⟩=some (.map a0)/\ w'.cell? ⟨w.heap.size,1,none⟩=some (.map a1)/\ w'.cell? ⟨w.heap.size,2,none⟩=some (.map (some na))/\ w'.cell? ⟨w.heap.size+1,0,none⟩=some (.map b0)/\ w'.cell? ⟨w.heap.size+1,1,none⟩=some (.map b1)/\ w'.cell? ⟨w.heap.size+1,2,none⟩=some (.map (some nb))) (Hs.out _ zI.drew) (fun qh=> ?_);refine tZ 0 27 ?_;refine tZ 1 28 ?_;refine tZ 2 29 ?_;refine tZ 3 30 ?_;refine tZ 5 32 ?_;refine tZ 6 33 ?_;refine cZ 4 ?_;intro K hK;go_simp;refine(Gw.out _ zI.drew).mono ?_;rintro e w7 ⟨rfl,b7⟩;have H5:Below w6.heap.size w6 w7:=⟨b7.os,b7.tape,b7.output,b7.size,b7.block⟩;refine hK.out _ _ (Hs.out _ H5) (fun qh=> ?_);clear hK K;try simp only [zP]
   refine cZ 7 ?_;intro K hK;go_simp;refine(Gx.out _ H5).mono ?_;rintro e w8 ⟨rfl,b8⟩;have Hl:=keepS H5 b8;refine hK.out _ _ (Hs.out _ Hl) (fun qh=> ?_);clear hK K;try simp only [zP]
   refine cZ 8 ?_;intro K hK;go_simp;refine(Gy.out _ Hl).mono ?_;rintro e w9 ⟨⟨x1,N1,rfl,h1⟩,b9⟩;have He:=keepS Hl b9;refine hK.out _ _ (Hs.out _ He) (fun qh=> ?_);clear hK K;try simp only [zP]
   have Gg:=hid h1;clear h1;refine cZ 9 ?_;intro K hK;go_simp;refine(G1.out w9 x1 N1 He _ Gg.out).mono ?_;rintro e Kf ⟨rfl,Hm,Hv,Hw⟩;have Hd:=hid ((Hf.out.below He).gr Hm Jr.out);refine hK.out _ _ (Hd.out.sees ((H4.out.below He H4.out.lt).gr Hm K4.out)) (fun qh=> ?_);clear hK K;try simp only [zP]
   refine zD ?_;obtain⟨J2,Ht⟩:=(Gi.out.below Hl).round b9 (Gg.out.mono (show c'<=c'+ds.length by omega)) (Nat.le_trans (Nat.le_trans Kn.out Gb.out.size) Hl.size) K5.out Hm Hv Hw;have Ge:Hid (w4.grownBy Kf (some x0.1)):=hid ((Gb.out.trans (below_gr He _)).trans Hm);have Hr:=hid ((H0.out.same (fun b e=>He.block b (H0.out.mlt b e)) (He.block _ H0.out.lt)).kept Hm K3.out Kx.out);have Gh:=hid Ht;clear qh b7 H5 b8 Hl b9 He Hm Hv Hw Ht Hs Gw Gx Gy G1 Gg;go_wp2_with fail;go_roundw;case rel=>exact⟨_,_,_,Hr.out,hid (by simpa [Nat.add_assoc] using Gh.out.congr (fun u=>by simp)),Hd,Ge⟩
   case measure=>exact Kl.out Kf Hr.out
theorem joinTreesC {v0:World}{Na Nb:List Ky ->Option (Nat×Nat)}{MA MB:List Ky ->Dt ->Option ByteArray}{ca cb na nb:Nat}{hA hB:Dt ->Bool}{J:List Lf}(H:JH v0 Na Nb MA MB ca cb na nb hA hB J)(hd:∀p,(Na p≠none \/Nb p≠none) ->p.length<=8)(hc:10*(ca+cb)<=1048576):
  ∀d z,z.length+d=8 ->∀w,Below v0.heap.size v0 w ->Calls Tryz.prog 107 #[livV na (Na z),livV nb (Nb z)] w (JQ J z ((d+2)*(ca+cb)) w)
 | 0,z,hz,w,hw=>by
  have:=joinStep H z (ca+cb) zL (by omega) (fun y hy=>absurd (hd _ hy) (by simp;omega)) w hw;rw [show (0+2)*(ca+cb)=ca+cb+(ca+cb) by omega];exact this
 | d+1,z,hz,w,hw=>by
  have e:(d+2)*(ca+cb)+(ca+cb)=(d+1+2)*(ca+cb):=by rw [show d+1+2=(d+2)+1 by omega,Nat.add_mul (d+2) 1,Nat.one_mul]
  have l1:(d+1+2)*(ca+cb)<=10*(ca+cb):=Nat.mul_le_mul_right _ (by omega);have l2:1*(ca+cb)<=(d+2)*(ca+cb):=Nat.mul_le_mul_right _ (by omega);rw [<- e];exact joinStep H z ((d+2)*(ca+cb)) (by omega) (by omega) (fun y hy=>joinTreesC H hd hc d (z++[y]) (by simp;omega)) w hw
theorem cW_le (J:List Lf)(z:List Ky):cW J z<=J.length:=List.length_filter_le _ _
theorem mW_le (J:List Lf)(z:List Ky):mW J z<=J.length:=List.length_filter_le _ _
theorem sum_cW (J:List Lf)(z:List Ky):∀ds:List Ky,(ds.map fun y=>cW J (z++[y])).sum<=ds.length*J.length
 | []=>Nat.zero_le _
 | y::r=>by
  have h1:=sum_cW J z r;have h2:=cW_le J (z++[y]);simp only [List.map_cons,List.sum_cons,List.length_cons,Nat.add_mul,Nat.one_mul];omega
structure TJ (w:World)(B:Nat)(J:List Lf)(N:List Ky ->Option (Nat×Nat))(c:Nat):Prop where
 tre:Tre w B N (fun r=>Mk J J.length r) c
 there:∀z y,(N (z++[y])).isSome=true↔Ah J (z++[y])
 dis:Dis J J.length
theorem JF.tj {w:World}{B:Nat}{J:List Lf}{N:List Ky ->Option (Nat×Nat)}{c:Nat}{x0:Nat×Nat}(h:JF w B J [] N c x0)(hd:Dis J J.length):TJ w B J N c:=
 ⟨by simpa using h.tre,fun z y=>by
  cases z with
  | nil=>simpa using h.there y []
  | cons u r=>simpa using h.there u (r++[y]),hd⟩
theorem TJ.below {w w':World}{B:Nat}{J:List Lf}{N:List Ky ->Option (Nat×Nat)}{c:Nat}(h:TJ w B J N c)(hb:Below w.heap.size w w'):TJ w' B J N c:=⟨h.tre.below hb,h.there,h.dis⟩
theorem TJ.deep {w:World}{B:Nat}{J:List Lf}{N:List Ky ->Option (Nat×Nat)}{c:Nat}(h:TJ w B J N c)(h8:∀x∈J,(Way x).length<=8):∀p,N p≠none ->p.length<=8:=fun p hp=>by
 by_cases e:p=[]
 ·rw [e];simp
 ·obtain⟨z,y,rfl⟩:∃z y,p=z++[y]:=⟨p.dropLast,p.getLast e,(List.dropLast_concat_getLast e).symm⟩;have h1:(N (z++[y])).isSome=true:=by
   cases hv:N (z++[y]) with
   | none=>exact absurd hv hp
   | some v=>rfl
  obtain⟨x,hx,Ha⟩:=(h.there z y).1 h1;exact Nat.le_trans Ha.length_le (h8 x hx)
theorem countStep {v0:World}{B c:Nat}{J:List Lf}{N:List Ky ->Option (Nat×Nat)}(H:TJ v0 B J N c)(hc:c<=1048576)(hJ:J.length<=1048576)(z:List Ky)(x:Nat×Nat)(hx:N z=some x)
  (hIH:∀y x1,N (z++[y])=some x1 ->∀w,Below v0.heap.size v0 w ->Calls Tryz.prog 109 #[.agg #[.map (some x1.1),.map (some x1.2)]] w fun e w'=>e=.returned (.int .i64 (cW J (z++[y])))/\ Below w.heap.size w w')
  (w:World) (hw:Below v0.heap.size v0 w):
  Calls Tryz.prog 109 #[.agg #[.map (some x.1),.map (some x.2)]] w fun e w'=>e=.returned (.int .i64 (cW J z))/\ Below w.heap.size w w':=by
 have HT:=hid (H.below hw);have HV:=hid hw;have HX:=hid hx;have HI:=hid hIH;obtain⟨W,hW⟩:∃W,w.alloc (.cells #[.map (some x.1),.map (some x.2)] 65)=W:=⟨_,rfl⟩;have b0:Below w.heap.size w W:=by rw [<- hW];exact zO _ _
 have X0:Bx2 W w.heap.size (.map (some x.1)) (.map (some x.2)):=by rw [<- hW];exact Bx2.made _ _ _ _
 have H8:=(HT.out.tre.below b0).marks z x hx;obtain⟨D,hD⟩:=H8;obtain⟨m,hm⟩:∃m,mW J z=m:=⟨_,rfl⟩;have H7:∀ty,(Builtin.len_ #[63] ty #[.map (some x.2)]).run Tryz.prog W=.ok (.int .i64 (m:Nat)) W:=fun ty=>by rw [<- hm,<- marks_len H.dis hD];exact hD.own.len Tryz.underlying63 ty
 have Gc:m<=1048576:=by rw [<- hm];exact Nat.le_trans (mW_le J z) hJ
 have HM:=hid hm;have H0:=hid ((HT.out.tre.below b0).kids z x hx);have Hq:=hid b0;have x0:=X0.c0;have x1:=X0.c1;have Ht:=hid (And.intro hc hJ);have H3:=hid H.there;clear H hc hx hIH hw b0 X0 hD hm hJ;go_enter Tryz.func109,Tryz.ntmps109;go_wp2_with (at_range;refine wpList_range_O _ rfl _ 62 rfl 114 65 keyKeyed Tryz.underlying62 keyV nodV (some x.1) c (fun y=>N (z++[y])) rfl H0.out ?_;intro w0 H5 Hd Ha Ga);have Hs:Hid (Below W.heap.size W w0):=hid ⟨Ha.os,Ha.tape,Ha.output,Ha.size,fun k hk=>Ha.block k hk (by simp)⟩;clear Ha Ga H7 x0 x1 hW;try go_frame
 go_loopw [3] (fun t wr=>∃(ds:List Ky) (Hl T:Nat),t=.int .i64 T/\ Rng wr 114 keyV nodV (some x.1) W.heap.size c (fun y=>N (z++[y])) ds Hl/\ Hid (T=m+(ds.map fun y=>cW J (z++[y])).sum)/\ Hid (Below W.heap.size W wr)) (fun t wr=>wr.rangeLeft x.1 W.heap.size);case atStart=>exact⟨[],_,m,rfl,Hd,hid (by simp),Hs⟩
 case round=>
  clear Hd Hs;obtain⟨ds,Hl,T,rfl,Hf,Hk,Hh⟩:=hrel;have Hb:=hid Hf;go_wp2_with (at_next;refine wpList_next_O _ rfl _ rfl 114 keyKeyed keyV (fun _ _=>keyV_inj) (fun key kl hk=>keyOf_key hk) nodV (some x.1) W.heap.size c (fun y=>N (z++[y])) ds Hl rfl Hf ?_ ?_)
  ·intro hk;have HE:Hid (T=cW J z):=hid (by
    rw [Hk.out,cW_sum z ds hk.1 J (fun u hu y hp=>(hk.2 y).2 (fun hn=>by
     have:=(H3.out z y).2 ⟨u,hu,hp⟩;rw [show N (z++[y])=none from hn] at this;cases this)),HM.out])
   clear hk Hf;go_wp2_with fail;go_ret;exact⟨by have h:=HE.out;subst h;rfl,keepS Hq.out Hh.out⟩
  ·intro xs xk Ho Hp w5 Hm Hx H9 kl H6 He Hc Hy Gb Hw;have Hu:=hid (fun w1 (b1:Below v0.heap.size v0 w1)=>HI.out (xs,xk) (Ho,Hp) Hx w1 b1);obtain⟨n,hn⟩:∃n,cW J (z++[(xs,xk)])=n:=⟨_,rfl⟩;rw [hn] at Hu;have k1:n<=1048576:=by rw [<- hn];exact Nat.le_trans (cW_le _ _) Ht.out.2
   have k2:T<=1099512676352:=by
    have h1:=sum_cW J z ds;have h2:=Hb.out.len;have h3:=Ht.out;have h4:ds.length*J.length<=1048576*1048576:=Nat.mul_le_mul (by omega) (by omega);rw [Hk.out];omega
   have H2:Hid (T+n=m+((ds++[(xs,xk)]).map fun y=>cW J (z++[y])).sum):=hid (by rw [Hk.out];simp [hn];omega);have H1:Hid (∀w9,Rng w9 114 keyV nodV (some x.1) W.heap.size c (fun y=>N (z++[y])) (ds++[(xs,xk)]) Hm ->w9.rangeLeft x.1 W.heap.size<wr.rangeLeft x.1 W.heap.size):=hid (fun w9 h9=>by
    rw [h9.left_eq,Hb.out.left_eq];exact Hc)
   have Hr:Hid (Below W.heap.size W w5):=hid (Hh.out.grown Hy Hh.out.size (fun k e=>by cases e;exact Nat.le_refl _));have Hi:=hid He;obtain⟨w6,Hn⟩:∃w6,w5.alloc (.cells #[.map (some Ho),.map (some Hp)] 65)=w6:=⟨_,rfl⟩;have b6:Below w5.heap.size w5 w6:=by rw [<- Hn];exact zO _ _
   have K6:Bx2 w6 w5.heap.size (.map (some Ho)) (.map (some Hp)):=by rw [<- Hn];exact Bx2.made _ _ _ _
   have Hg:=hid (Hr.out.trans (b6.mono Hr.out.size));have H4:Hid (Below v0.heap.size v0 w6):=hid (HV.out.trans ((keepS Hq.out Hg.out).mono HV.out.size));have Hj:=hid (Hi.out.same (fun b e=>b6.block b (Hi.out.mlt b e)) (b6.block _ Hi.out.lt));have c0:=K6.c0;have c1:=K6.c1;clear Hx H9 H6 Hf He Hc Hy Gb b6 K6 hn;dsimp only [keyV,nodV] at Hw ⊢;go_wp2_with fail;refine(Hu.out _ H4.out).mono ?_;rintro e w7 ⟨rfl,b7⟩;have Hz:=hid (Hg.out.trans (b7.mono Hg.out.size));have Hv:=hid (Hj.out.same (fun b e=>b7.block b (Hj.out.mlt b e)) (b7.block _ Hj.out.lt));clear b7 c0 c1 Hw Hn;go_wp2_with fail;go_roundw;case rel=>exact⟨_,_,T+n,by go_num,Hv.out,H2,Hz⟩
   case measure=>exact H1.out w7 Hv.out
theorem countC {v0:World}{B c:Nat}{J:List Lf}{N:List Ky ->Option (Nat×Nat)}(H:TJ v0 B J N c)(hc:c<=1048576)(hJ:J.length<=1048576)(h8:∀x∈J,(Way x).length<=8):
  ∀d z x,z.length+d=8 ->N z=some x ->∀w,Below v0.heap.size v0 w ->Calls Tryz.prog 109 #[.agg #[.map (some x.1),.map (some x.2)]] w fun e w'=>e=.returned (.int .i64 (cW J z))/\ Below w.heap.size w w'
 | 0,z,x,hz,hx,w,hw=>countStep H hc hJ z x hx (fun y x1 h1=>absurd (H.deep h8 (z++[y]) (by rw [h1];simp)) (by simp;omega)) w hw
 | d+1,z,x,hz,hx,w,hw=>countStep H hc hJ z x hx (fun y x1 h1=>countC H hc hJ h8 d (z++[y]) x1 (by simp;omega) h1) w hw
end Go.Proofs.YtfidfeilljlbiaaGreat
