import Derived.Test.YtfidfeilljlbiaaGreatFrg20
import Derived.Test.YtfidfeilljlbiaaGreatFrhShel3
import Derived.Maps.RangeWalk
import Derived.Lib.OwnBridge
import Derived.Lib.RowBridge
import Derived.Sort.OwnSorted
import Derived.Shelf.SlIter.Collect
import Derived.Test.YtfidfeilljlbiaaGreatFrg14
import Derived.Test.YtfidfeilljlbiaaGreatFrg16
import Derived.Test.YtfidfeilljlbiaaGreatFrg07
import Derived.Laws.StructEq
set_option linter.unusedVariables false
set_option linter.unusedSimpArgs false
set_option maxRecDepth 100000
set_option maxHeartbeats 40000000
namespace Go.Proofs.YtfidfeilljlbiaaGreat
open Go.ChangeShapes Go.WideShapes Go.ChangeAt Go.RowKit Go.Maps
def RrOk (R F T:Nat ->Int)(n:Nat)(l:List Lf)(p:List ByteArray):Prop:=StOk R F T n l/\ PthOk p
theorem sRow_enc (vs:List ByteArray):sRowR vs=(vs.map fun s=>s.data.toList).map encStr:=by
 simp [sRowR,encStr,Function.comp_def]
theorem enc_sRow (xs:List (List UInt8)):xs.map encStr=sRowR (xs.map bs):=by
 simp [sRowR,bs,encStr,Function.comp_def]
theorem sortS (B g c:Nat)(vs:List ByteArray)(w:World)(ho:w.ownsRow B 9 1 (.slice (some ⟨g,0,none⟩) vs.length c) vs.length (sRowR vs))(hn:vs.length<=1048576):
  Calls Tryz.prog 35 #[.slice (some ⟨g,0,none⟩) vs.length c] w fun e w'=>e=.returned (.tuple #[])/\ (∃zs,zs=(vs.map fun s=>s.data.toList).mergeSort (fun x y=>decide (x<=y))/\ zs.length=vs.length/\ w'.ownsRow B 9 1 (.slice (some ⟨g,0,none⟩) vs.length c) vs.length (zs.map encStr))/\ w.grownBy w' (some g):=by
 rw [sRow_enc] at ho;obtain⟨g',Hc,e,_,Hd,_,_,_,hH⟩:=Lib.holds_of_ownsRow ho (by simp);injection e with e _ _;injection e with e;injection e with e;subst e;have Ha:=Any.slices_Sort_string Tryz.sortS g 0 c (vs.map fun s=>s.data.toList) w hH Hd (by simp;omega);change Calls Tryz.prog 35 _ _ _ at Ha;rw [List.length_map] at Ha;refine Ha.mono ?_;rintro e w' ⟨rfl,n,os,rfl⟩;have hl:((vs.map fun s=>s.data.toList).mergeSort fun x y=>decide (x<=y)).length=(vs.map fun s=>s.data.toList).length:=List.length_mergeSort _;rcases ho.2 with ⟨h0,_⟩|⟨g',Hc,He,hv,Hb,hb,h1,h2,h3,h4⟩
 ·cases h0
 cases hv;have hs:=ownsRow_sorted (n:=n) (os:=os) hl Hb hb (by simpa using h1) h2 h3;rw [List.length_map] at hs;exact⟨rfl,⟨_,rfl,by rw [hl,List.length_map],hs⟩,grownBy_sorted _⟩
theorem compactSC (B g c:Nat)(zs:List (List UInt8))(w:World)(ho:w.ownsRow B 9 1 (.slice (some ⟨g,0,none⟩) zs.length c) zs.length (zs.map encStr))(hn:zs.length<=1048576):
  Calls Tryz.prog 36 #[.slice (some ⟨g,0,none⟩) zs.length c] w fun e w'=>∃ts,ts=(Lib.compact zs).map bs/\ e=.returned (.slice (some ⟨g,0,none⟩) ts.length c)/\ w'.ownsRow B 9 1 (.slice (some ⟨g,0,none⟩) ts.length c) ts.length (sRowR ts)/\ ts.length<=zs.length/\ w.grownBy w' (some g):=by
 obtain⟨g',Hd,e,_,He,Hb,_,_,hH⟩:=Lib.holds_of_ownsRow ho (by simp);injection e with e _ e3;injection e with e;injection e with e;subst e;subst e3;have Ha:=Any.slices_Compact_string Tryz.compactS g 0 c zs w hH (by omega) Hb;change Calls Tryz.prog 36 _ _ _ at Ha;refine Ha.mono ?_;rintro e w' ⟨rfl,q,rfl⟩;have Hc:=Lib.compact_length_le zs;have hc:=Lib.ownsRow_putRow (q:=q) (k:=(Lib.compact zs).length) (ys:=Lib.compact zs++List.replicate (zs.length - (Lib.compact zs).length) []) ho (by simp;omega) Hc;rw [List.take_left] at hc;refine⟨_,rfl,by rw [List.length_map],?_,by rw [List.length_map];exact Hc,?_⟩
 ·rw [List.length_map,<- enc_sRow];exact hc
 ·refine⟨rfl,rfl,rfl,by simp [Sort.putRow,Sort.mapBlock,Sort.ahead],fun k hk hne=> ?_⟩;have:g≠k:=fun e=>hne (by rw [e]);simp [Sort.putRow,Sort.mapBlock,Sort.ahead,Array.getElem?_modify,this]
theorem fieldMarks2 (u v:Value)(w:World):(Instr.field 65 (.agg #[u,v]) 1).run Tryz.prog w=.ok v w:=by kernel_rfl
def vals (f:Dt ->Option ByteArray)(ds:List Dt):List ByteArray:=ds.map fun d=>(f d).getD ByteArray.empty
theorem vals_mem {f:Dt ->Option ByteArray}{ds:List Dt}(h:KeysF f ds)(s:ByteArray):s∈vals f ds↔∃d,f d=some s:=by
 unfold vals;rw [List.mem_map];constructor
 ·rintro⟨d,hd,e⟩;have:=(h.2 d).1 hd;cases hf:f d with
  | none=>exact absurd hf this
  | some t=>rw [hf] at e;exact⟨d,by rw [hf];exact congrArg some e⟩
 ·rintro⟨d,hd⟩;exact⟨d,(h.2 d).2 (by rw [hd];simp),by rw [hd];rfl⟩
theorem nilS (w:World)(B:Nat):w.ownsRow B 9 1 (.slice none 0 0) ([]:List ByteArray).length (sRowR []):=⟨rfl,.inl ⟨rfl,rfl⟩⟩
theorem implReadReg (a:Option Addr)(c:Nat)(l:List Lf)(x:Option Addr)(n d:Nat)(R F T:Nat ->Int)(p:List ByteArray)(pa:Option Addr)(cp:Nat)(w:World)(hn:l.length<=1048576)(hp:LBd l)(hi:∀i,LfI (gL l i))(hm:n<=1048576)(hq:p.length<=1048576)(h:LSeg w a l)(h':RSeg w x n R F T)(hs:SSeg w pa p):
  Calls Tryz.prog 11 #[.agg #[.slice a l.length c,.slice x n d],.slice pa p.length cp] w fun e w'=>(∃v ts,e=.returned (.tuple #[v,.bool (yes (RrOk R F T n l p))])/\ w'.ownsRow w.heap.size 9 1 v ts.length (sRowR ts)/\ ts.length<=1048576/\ (RrOk R F T n l p ->OnceOf (rV l p l.length) ts)/\ (¬RrOk R F T n l p ->ts=[]))/\ Below w.heap.size w w':=by
 obtain⟨W,hW⟩:∃W,w.alloc (.cells #[.slice a l.length c,.slice x n d] 28)=W:=⟨_,rfl⟩;have b0:Below w.heap.size w W:=by rw [<- hW];exact zO _ _
 have B0:Bx2 W w.heap.size (.slice a l.length c) (.slice x n d):=by rw [<- hW];exact Bx2.made _ _ _ _
 have k0:=B0.c0;have k1:=B0.c1;have HL:=hid (h.below b0);have HR:=hid (h'.below b0);have HS:=hid (hs.below b0);have H3:=hid b0;clear h h' hs b0 B0;by_cases Hm:StOk R F T n l
 ·have HO:=hid (openStateK a c l x n d R F T W hn hp hi hm HL.out HR.out Hm);have H6:=hid Hm;clear Hm;go_enter Tryz.func11,Tryz.ntmps11;go_wp2_with fail;try rw [hW]
  clear hW;refine HO.out.mono ?_;rintro e w1 ⟨⟨x0,bm,D,G,N,B,rfl,Gc,_,_,_,hT,hN,hI⟩,b1⟩;obtain⟨w2,G2⟩:∃w2,w1.alloc (.cells #[.map (some x0.1),.map (some x0.2),.map (some bm)] 69)=w2:=⟨_,rfl⟩;have b2:Below w1.heap.size w1 w2:=by rw [<- G2];exact zO _ _
  have L2:Bx3 w2 w1.heap.size (.map (some x0.1)) (.map (some x0.2)) (.map (some bm)):=by rw [<- G2];exact Bx3.made _ _ _ _ _
  have c0:=L2.c0;have c1:=L2.c1;have HT:=hid (hT.below b2);have HN:=hid hN;have HZ:=hid (keepS H3.out (keepS b1 b2));have Gj:=hid (HS.out.below (keepS b1 b2));have HP:=hid (pathImpl p pa cp w2 hq Gj.out);clear b1 b2 L2 hT hN hI Gc HO k0 k1;obtain⟨Z,hZ⟩:∃Z,yes (PthOk p)=Z:=⟨_,rfl⟩;rw [hZ] at HP;have Gn:=hid hZ;clear hZ;go_wp2_with fail;refine HP.out.mono ?_;rintro e w3 ⟨rfl,rfl⟩;clear HP;cases Z with
  | false=>
   have HF:Hid (¬RrOk R F T n l p):=hid (fun h=>by have:=Gn.out;rw [yes_t h.2] at this;cases this);go_wp2_with fail;go_ret2;exact⟨⟨_,[],by rw [yes_f HF.out];rfl,nilS _ _,by simp,fun h=>absurd h HF.out,fun _=>rfl⟩,HZ.out⟩
  | true=>
   have Hj:Hid (RrOk R F T n l p):=hid ⟨H6.out,yes_iff.1 Gn.out⟩;have He:=hid (atC p pa cp 1 B (9*l.length) N (Mk l l.length) w3 hq (fun i=>by
    by_cases Km:i<p.length
    ·have:=(Hj.out.2.2.2 i Km).2;omega
    ·rw [gS_far (by omega)];simp) (by decide) Gj.out HT.out)
   rw [HN.out] at He;have Hf:Hid (∀s,(∃d,Mk l l.length (wayOf p 1) d=some s)↔s∈rV l p l.length):=hid (fun s=>reg_way Hj.out.2 H6.out.2.2.2);obtain⟨f,hf⟩:∃f,Mk l l.length (wayOf p 1)=f:=⟨_,rfl⟩;obtain⟨u,hu⟩:∃u,mF (N (wayOf p 1))=u:=⟨_,rfl⟩;cases hNp:N (wayOf p 1) with
   | none=>
    have Hz:mS (N (wayOf p 1))=none:=by rw [hNp];rfl
    have G9:Hid (∀d,f d=none):=hid (fun d=>by rw [<- hf,HT.out.none' _ hNp]);rw [hu,Hz] at He;rw [hf] at Hf;dsimp only [mF,mS,Option.map] at He;clear hu Hz hf hNp;go_wp2_with fail;refine He.out.mono ?_;rintro e w4 ⟨rfl,b4⟩;have Gr:=fieldMarks2 (.map u) (.map none) w4;have Hv:=run_range_nilMap (P:=Tryz.prog) w4 63 58 74 Tryz.underlying63;have Kq:∀ty,(Instr.next (.pointer (some ⟨w4.heap.size,0,none⟩)) false ty).run Tryz.prog (w4.alloc (.mapIter none 0 #[] 0))=_:=fun ty=>run_next_nilMap _ ty 0 0 #[];have Hr:=hid ((keepS HZ.out b4).alloc (keepS HZ.out b4).size (.mapIter none 0 #[] 0));have Hb:=Any.slices_Sort_string_none Tryz.sortS none 0 (w4.alloc (.mapIter none 0 #[] 0));change Calls Tryz.prog 35 _ _ _ at Hb;have Hn:=hid Hb;have Ha:=Any.slices_Compact_string_empty Tryz.compactS none 0 (w4.alloc (.mapIter none 0 #[] 0));change Calls Tryz.prog 36 _ _ _ at Ha;have Hc:=hid Ha;clear b4 He Hb Ha;go_wp2_with fail;refine wp_loop_rounds 1 ?_;rw [rounds_succ];go_wp2_with fail;refine Hn.out.mono ?_;rintro e w5 ⟨rfl,rfl⟩;clear Hn;go_wp2_with fail;refine Hc.out.mono ?_;rintro e w6 ⟨rfl,rfl⟩;clear Hc;go_wp2_with fail;go_ret2;exact⟨⟨_,[],by rw [yes_t Hj.out];rfl,nilS _ _,by simp,fun _=>⟨List.Pairwise.nil,fun s=>by rw [<- Hf.out s];simp [G9.out]⟩,fun hh=>absurd Hj.out hh⟩,Hr.out⟩
   | some x1=>
    have Hz:mS (N (wayOf p 1))=some x1.2:=by rw [hNp];rfl
    have Gi:Hid (∀w4,Below w3.heap.size w3 w4 ->∃D0,FM w4 58 dtV mrkV x1.2 (9*l.length) f D0):=hid (fun w4 b4=>by
     have:=(HT.out.below b4).marks _ x1 hNp;rw [hf] at this;exact this)
    rw [hu,Hz] at He;rw [hf] at Hf;dsimp only [mF,mS,Option.map] at He;have Kn:=H6.out.2.1;clear hu Hz hf hNp;go_wp2_with fail;refine He.out.mono ?_;rintro e w4 ⟨rfl,b4⟩;obtain⟨D0,Ga⟩:=Gi.out w4 b4;have Hh:=Ga.own;have Hp:=hid Ga;have Gr:=fieldMarks2 (.map u) (.map (some x1.2)) w4;have Hr:=hid (keepS HZ.out b4);clear b4 He Ga Gi;go_wp2_with (at_range;refine wpList_range_own _ rfl _ 63 rfl 58 74 dotKeyed Tryz.underlying63 allR x1.2 (9*l.length) D0 rfl Hh ?_;intro w0 Hw Gs Gz);have Gq:x1.2<w4.heap.size:=by
     obtain⟨es,Gp,hb,_⟩:=Hh;exact(Array.getElem?_eq_some_iff.1 hb).1
    have Gk:Hid (Maps.size D0<=9*l.length):=hid Hh.size_le;have Gm:Hid (Below w.heap.size w w0):=hid (Hr.out.grown Gs Hr.out.size (fun k e=>by cases e));have Hq:Hid (w.heap.size<=w4.heap.size):=hid Hr.out.size;have G6:=hid Gq;have Ke:=hid Gz;clear Gq Gz Gs Hh Gr;try go_frame
    go_loopw [8] (fun o wr=>∃(Hi:Lit ->Bool) (H9:Nat) (ds:List Dt),wr.ranges Tryz.prog 58 allR x1.2 w4.heap.size (9*l.length) D0 Hi H9/\ Hid (ds.length+H9<=Maps.size D0)/\ Hid (CollF 58 dtV f Hi ds)/\ Hid (wr.ownsRow (w4.heap.size+1) 9 1 o (vals f ds).length (sRowR (vals f ds)))/\ Hid (Below w.heap.size w wr)/\ Hid (w4.heap.size+1<=wr.heap.size)) (fun _ wr=>wr.rangeLeft x1.2 w4.heap.size);case atStart=>exact⟨_,_,[],Hw,hid (by simp),hid (CollF.start Hp.out),hid (nilS _ _),Gm,hid (by rw [Ke.out];omega)⟩
    case round=>
     clear Hw Gm;obtain⟨Hi,H9,ds,Hv,Ho,HC,HO,HB,H8⟩:=hrel;go_wp2_with (at_next;refine wpList_next_ranges _ rfl _ rfl 58 dotKeyed allR dtV id (fun key kl hk=>keyOf_dot hk) (fun v _ _=>⟨v,rfl⟩) x1.2 w4.heap.size (9*l.length) _ _ _ rfl Hv ?_ ?_)
     ·intro Kk Gv;have HK:Hid (KeysF f ds):=hid (HC.out.done Hp.out Gv);have Hd:Hid ((vals f ds).length<=1048576):=hid (by have h1:=Ho.out;have h2:=Gk.out;simp [vals];omega);have Gf:Hid (∀ts,OnceOf (vals f ds) ts ->OnceOf (rV l p l.length) ts):=hid (fun ts h=>⟨h.1,fun s=>by rw [h.2,vals_mem HK.out,Hf.out]⟩);clear Gv Kk HC Ho Hv;rcases HO.out.2 with ⟨rfl,h0⟩|⟨g,Go,Kp,rfl,Ht,hb,h1,h2,h3,h4⟩
      ·have Hb:=Any.slices_Sort_string_none Tryz.sortS none 0 wr;change Calls Tryz.prog 35 _ _ _ at Hb;have Hn:=hid Hb;have Ha:=Any.slices_Compact_string_empty Tryz.compactS none 0 wr;change Calls Tryz.prog 36 _ _ _ at Ha;have Hc:=hid Ha;have H5:Hid (vals f ds=[]):=hid (List.eq_nil_of_length_eq_zero h0);clear Hb Ha h0;go_wp2_with fail;refine Hn.out.mono ?_;rintro e w5 ⟨rfl,rfl⟩;clear Hn;go_wp2_with fail;refine Hc.out.mono ?_;rintro e w6 ⟨rfl,rfl⟩;clear Hc;go_wp2_with fail;go_ret2;exact⟨⟨_,[],by rw [yes_t Hj.out];rfl,nilS _ _,by simp,fun _=>Gf.out [] ⟨List.Pairwise.nil,fun s=>by rw [H5.out]⟩,fun hh=>absurd Hj.out hh⟩,HB.out⟩
      ·have H7:=hid (sortS (w4.heap.size+1) g Go (vals f ds) wr HO.out Hd.out);have Gg:Hid (w.heap.size<=g):=hid (by have:=Hq.out;omega);clear hb h1 h2 h3 h4 Ht;obtain⟨m0,H1⟩:∃m0,(vals f ds).length=m0:=⟨_,rfl⟩;rw [H1] at H7;simp only [H1];have Gh:=hid H1;clear H1 HO;go_wp2_with fail;refine H7.out.mono ?_;rintro e w5 ⟨rfl,⟨zs,G3,H2,Gx⟩,Gt⟩;have Ge:Hid (Below w.heap.size w w5):=hid (HB.out.grown Gt (by have:=Hq.out;have:=H8.out;omega) (fun k e=>by cases e;exact Gg.out));have H4:=hid (compactSC (w4.heap.size+1) g Go zs w5 (by rw [H2];exact Gx) (by have:=Hd.out;have:=Gh.out;omega));rw [H2] at H4;have Kh:=hid G3;have Kg:=hid H2;clear G3 H2 Gx Gt H7;go_wp2_with fail;refine H4.out.mono ?_;rintro e w6 ⟨ts,G1,rfl,Gy,Ko,Gu⟩;have G4:Hid (Below w.heap.size w w6):=hid (Ge.out.grown Gu (Ge.out.size) (fun k e=>by cases e;exact Gg.out));have Ka:=hid (own_weakR Gy (B':=w.heap.size) (by have:=Hq.out;omega));have Gl:Hid (OnceOf (rV l p l.length) ts/\ ts.length<=1048576):=hid ⟨Gf.out ts (by rw [G1,Kh.out];exact compact_once _),by have:=Hd.out;have:=Gh.out;have:=Kg.out;omega⟩;clear G1 Gy Ko Gu H4;go_wp2_with fail;go_ret2;exact⟨⟨_,ts,by rw [yes_t Hj.out];rfl,Ka.out,Gl.out.2,fun _=>Gl.out.1,fun hh=>absurd Hj.out hh⟩,G4.out⟩
     ·intro xr xq Kj kl yd yp w5 Hs Hg Gw hv H0 Hx Hu Gb G0 Kl;obtain⟨sv,Gd⟩:∃sv,f (xr,xq)=some sv:=by
       have h1:=has_true_of_atKey H0;rw [(Hp.out.at' (xr,xq) kl Hg).1] at h1;cases e:f (xr,xq) with
       | none=>rw [e] at h1;cases h1
       | some t=>exact⟨t,rfl⟩
      obtain rfl:Kj=.agg #[.string sv]:=by
       have h1:=(Hp.out.at' (xr,xq) kl Hg).2;rw [H0,Gd] at h1;have h2:=allR_inv hv;rw [h2] at h1;injection h1
      have G7:Hid (CollF 58 dtV f (fun z=>Hi z && !z.sameKey kl) (ds++[(xr,xq)])):=hid (HC.out.step Hp.out dotKeyed (fun _ _=>dtV_inj) Hg Gw H0);have HV:Hid (vals f (ds++[(xr,xq)])=vals f ds++[sv]):=hid (by simp [vals,Gd]);have Hd:Hid ((vals f ds).length+1<=1048576):=hid (by have h1:=Ho.out;have h2:=Gk.out;simp [vals];omega);have O5:=own_atS HO.out (w':=w5) (fun g hg=>Gb.block g (HO.out.lt g hg).2 (by have:=(HO.out.lt g hg).1;intro e;injection e with e;omega));have O6:=World.ownsRow.alloc (World.ownsRow.alloc O5 (.cells #[.string sv] 74)) (.cells #[.string sv] 9);have B5:Below w.heap.size w w5:=HB.out.grown Gb (HB.out.size) (fun k e=>by cases e;exact Hq.out);have B6:=(B5.alloc B5.size (.cells #[.string sv] 74)).alloc (B5.alloc B5.size (.cells #[.string sv] 74)).size (.cells #[.string sv] 9);obtain⟨v7,w7,Hk,o7,g7,Ki,_⟩:=appSR (w4.heap.size+1) ((w5.alloc (.cells #[.string sv] 74)).alloc (.cells #[.string sv] 9)) u8 (vals f ds) [sv] ⟨w5.heap.size+1,0,none⟩ 1 O6 (fun i hi=>by(obtain rfl:i=0:=(by simpa using hi));simp [Addr.add,gS]) (by have:=Hd.out;simp;omega) (by have:=H8.out;simp;omega);have Hy:=(Hx.alloc (.cells #[.string sv] 74)).alloc (.cells #[.string sv] 9);have Hl:=Hy.kept g7 (fun e=>by have h1:=(HO.out.lt _ e.symm).1;have h2:=G6.out;omega) (fun e=>by have h1:=(HO.out.lt _ e.symm).1;omega);have G5:Hid (Below w.heap.size w w7):=hid (B6.grown g7 B6.size (fun k e=>by have h1:=(HO.out.lt _ e).1;have:=Hq.out;omega));have Kb:Hid (w7.ownsRow (w4.heap.size+1) 9 1 v7 (vals f (ds++[(xr,xq)])).length (sRowR (vals f (ds++[(xr,xq)])))):=hid (by rw [HV.out];exact o7);have Kf:Hid (w4.heap.size+1<=w7.heap.size):=hid (by have h1:=g7.size;have h2:=H8.out;have h3:=G0;simp at h1;omega);have Kd:Hid (w7.rangeLeft x1.2 w4.heap.size<wr.rangeLeft x1.2 w4.heap.size):=hid (by rw [Hl.left_eq,Hv.left_eq];exact Hu);have Kc:=hid Hl;have G8:Hid ((ds++[(xr,xq)]).length+Hs<=Maps.size D0):=hid (by have:=Ho.out;simp;omega);clear Hy Hl Hx g7 Ki B5 B6 O5 O6 o7 G0 Gb Hu H0 hv Gw Hg Gd Hv HC Ho;dsimp only [dtV,dotV,id] at Kl ⊢;have Kr:(w5.alloc (.cells #[.string ByteArray.empty] 74)).heap.size=w5.heap.size+1:=by simp
      simp only [List.length_cons,List.length_nil,Nat.zero_add] at Hk;go_wp2_with (at_builtin;refine wpList_appS rfl _ _ _ rfl Hk (by rfl) (by rfl) rfl ?_;clear Hk);go_roundw;case rel=>exact⟨_,Hs,_,Kc.out,G8,G7,Kb,G5,Kf⟩
      case measure=>exact Kd.out
 ·have HO:=hid (openStateNo a c l x n d R F T W hn hp hi hm HL.out HR.out Hm);have HF:Hid (¬RrOk R F T n l p):=hid (fun h=>Hm h.1);clear Hm;go_enter Tryz.func11,Tryz.ntmps11;go_wp2_with fail;try rw [hW]
  clear hW;refine HO.out.mono ?_;rintro e w1 ⟨rfl,b1⟩;have HZ:=hid ((keepS H3.out b1).alloc (keepS H3.out b1).size (.cells #[.map none,.map none,.map none] 69));clear b1 HO k0 k1;go_wp2_with fail;go_ret2;exact⟨⟨_,[],by rw [yes_f HF.out];rfl,nilS _ _,by simp,fun h=>absurd h HF.out,fun _=>rfl⟩,HZ.out⟩
def KyOk (R F T:Nat ->Int)(n:Nat)(l:List Lf)(p:List ByteArray):Prop:=StOk R F T n l/\ (p.length=0 \/PthOk p)
theorem nilRow (w:World)(B:Nat):w.ownsRow B 114 2 (.slice none 0 0) 0 []:=⟨rfl,.inl ⟨rfl,rfl⟩⟩
theorem implKeys (a:Option Addr)(c:Nat)(l:List Lf)(x:Option Addr)(n d:Nat)(R F T:Nat ->Int)(p:List ByteArray)(pa:Option Addr)(cp:Nat)(w:World)(hn:l.length<=1048576)(hp:LBd l)(hi:∀i,LfI (gL l i))(hm:n<=1048576)(hq:p.length<=1048576)(h:LSeg w a l)(h':RSeg w x n R F T)(hs:SSeg w pa p):
  Calls Tryz.prog 15 #[.agg #[.slice a l.length c,.slice x n d],.slice pa p.length cp] w fun e w'=>(∃v ts,e=.returned (.tuple #[v,.bool (yes (KyOk R F T n l p))])/\ w'.ownsRow w.heap.size 114 2 v ts.length (kRow ts)/\ ts.length<=1048576/\ (KyOk R F T n l p ->ts=kS l p l.length)/\ (¬KyOk R F T n l p ->ts=[]))/\ Below w.heap.size w w':=by
 obtain⟨W,hW⟩:∃W,w.alloc (.cells #[.slice a l.length c,.slice x n d] 28)=W:=⟨_,rfl⟩;have b0:Below w.heap.size w W:=by rw [<- hW];exact zO _ _
 have B0:Bx2 W w.heap.size (.slice a l.length c) (.slice x n d):=by rw [<- hW];exact Bx2.made _ _ _ _
 have k0:=B0.c0;have k1:=B0.c1;have HL:=hid (h.below b0);have HR:=hid (h'.below b0);have HS:=hid (hs.below b0);have Hk:=hid b0;clear h h' hs b0 B0;by_cases Hd:StOk R F T n l
 ·have HO:=hid (openStateK a c l x n d R F T W hn hp hi hm HL.out HR.out Hd);have Hj:=hid Hd;clear Hd;go_enter Tryz.func15,Tryz.ntmps15;go_wp2_with fail;try rw [hW]
  clear hW;refine HO.out.mono ?_;rintro e w1 ⟨⟨x0,bm,D,G,N,B,rfl,Hr,_,_,_,hT,hN,hI⟩,b1⟩;obtain⟨w2,Hu⟩:∃w2,w1.alloc (.cells #[.map (some x0.1),.map (some x0.2),.map (some bm)] 69)=w2:=⟨_,rfl⟩;have b2:Below w1.heap.size w1 w2:=by rw [<- Hu];exact zO _ _
  have L2:Bx3 w2 w1.heap.size (.map (some x0.1)) (.map (some x0.2)) (.map (some bm)):=by rw [<- Hu];exact Bx3.made _ _ _ _ _
  have c0:=L2.c0;have c1:=L2.c1;have HT:=hid (hT.below b2);have HN:=hid hN;have HI:=hid hI;have HZ:=hid (keepS Hk.out (keepS b1 b2));have Hs:=hid (HS.out.below (keepS b1 b2));clear b1 b2 L2 hT hN hI Hr HO k0 k1;have Ha:Hid (KyOk R F T n l p ->(∀i,(gS p i).size<=1048576) ->Calls Tryz.prog 34 #[.agg #[.map (some x0.1),.map (some x0.2)],.slice pa p.length cp,.int .i64 3] w2 fun e w'=>e=.returned (.agg #[.map (mF (N (wayOf p 3))),.map (mS (N (wayOf p 3)))])/\ Below w2.heap.size w2 w'):=hid (fun _ hsz=>by
   have:=atC p pa cp 3 B (9*l.length) N (Mk l l.length) w2 hq hsz (by decide) Hs.out HT.out;rw [HN.out] at this;exact this)
  have He:Hid (∀w3,Below w2.heap.size w2 w3 ->Calls Tryz.prog 41 #[.agg #[.map (mF (N (wayOf p 3))),.map (mS (N (wayOf p 3)))]] w3 fun e w'=>∃v ts,e=.returned v/\ ts=kS l p l.length/\ ts.length<=1048576/\ w'.ownsRow w3.heap.size 114 2 v ts.length (kRow ts)/\ Below w3.heap.size w3 w'):=hid (fun w3 b3=>
   (sortedKeysC B (9*l.length) N (Mk l l.length) (wayOf p 3) w3 (HT.out.below b3) (by have:=Hj.out.2.1;omega)).mono fun e w' ⟨v,ts,he,h1,h2,h3,h4,h5⟩=>⟨v,ts,he,kS_tree Hj.out.2.2.1 HI.out h1 h2,h3,h4,h5⟩)
  obtain⟨u,hu⟩:∃u,mF (N (wayOf p 3))=u:=⟨_,rfl⟩;obtain⟨u',Ht⟩:∃u',mS (N (wayOf p 3))=u':=⟨_,rfl⟩;rw [hu,Ht] at Ha He;clear hu Ht;by_cases Hh:p.length=0
  ·have Hc:Hid (KyOk R F T n l p):=hid ⟨Hj.out,.inl Hh⟩;have HA:=hid (Ha.out Hc.out (fun i=>by rw [gS_far (by omega)];simp));have dp:decide ((0:Int)<(p.length:Int))=false:=by simp;exact List.eq_nil_of_length_eq_zero Hh
   have Hv:decide (0<p.length)=false:=by simp;exact List.eq_nil_of_length_eq_zero Hh
   clear Hh;go_wp2_with fail;refine HA.out.mono ?_;rintro e w4 ⟨rfl,b4⟩;have Hg:=hid (keepS HZ.out b4);have HK:=hid (He.out w4 b4);clear b4 HA He Ha;go_wp2_with fail;refine HK.out.mono ?_;rintro e w5 ⟨v,ts,rfl,Hi,Hb,ho,hb⟩;have Hf:=hid (And.intro Hi Hb);have Hm:=hid (keepS Hg.out hb);have Hl:Hid (w5.ownsRow w.heap.size 114 2 v ts.length (kRow ts)):=hid (by
    obtain⟨q1,q2⟩:=ho;refine⟨q1,?_⟩;rcases q2 with q2|⟨g,Ho,Hp,e,Hq,r⟩
    ·exact .inl q2
    ·exact .inr ⟨g,Ho,Hp,e,Nat.le_trans Hg.out.size Hq,r⟩)
   clear Hi Hb ho hb HK;go_wp2_with fail;go_ret2;exact⟨⟨v,ts,by rw [yes_t Hc.out];rfl,Hl.out,Hf.out.2,fun _=>Hf.out.1,fun hh=>absurd Hc.out hh⟩,Hm.out⟩
  ·have dp:decide ((0:Int)<(p.length:Int))=true:=by simp;omega
   have Hv:decide (0<p.length)=true:=by simp;omega
   have HP:=hid (pathImpl p pa cp w2 hq Hs.out);obtain⟨Z,hZ⟩:∃Z,yes (PthOk p)=Z:=⟨_,rfl⟩;rw [hZ] at HP;have Hn:=hid hZ;clear hZ;go_wp2_with fail;refine HP.out.mono ?_;rintro e w3 ⟨rfl,rfl⟩;clear HP;cases Z with
   | false=>
    have HF:Hid (¬KyOk R F T n l p):=hid (fun h=>by have:=Hn.out;rw [yes_t (h.2.resolve_left Hh)] at this;cases this);go_wp2_with fail;go_ret2;exact⟨⟨_,[],by rw [yes_f HF.out];rfl,nilRow _ _,by simp,fun h=>absurd h HF.out,fun _=>rfl⟩,HZ.out⟩
   | true=>
    have Hc:Hid (KyOk R F T n l p):=hid ⟨Hj.out,.inr (yes_iff.1 Hn.out)⟩;have HA:=hid (Ha.out Hc.out (fun i=>by
     by_cases Hw:i<p.length
     ·have:=((yes_iff.1 Hn.out).2.2 i Hw).2;omega
     ·rw [gS_far (by omega)];simp))
    go_wp2_with fail;refine HA.out.mono ?_;rintro e w4 ⟨rfl,b4⟩;have Hg:=hid (keepS HZ.out b4);have HK:=hid (He.out w4 b4);clear b4 HA He Ha;go_wp2_with fail;refine HK.out.mono ?_;rintro e w5 ⟨v,ts,rfl,Hi,Hb,ho,hb⟩;have Hf:=hid (And.intro Hi Hb);have Hm:=hid (keepS Hg.out hb);have Hl:Hid (w5.ownsRow w.heap.size 114 2 v ts.length (kRow ts)):=hid (by
     obtain⟨q1,q2⟩:=ho;refine⟨q1,?_⟩;rcases q2 with q2|⟨g,Ho,Hp,e,Hq,r⟩
     ·exact .inl q2
     ·exact .inr ⟨g,Ho,Hp,e,Nat.le_trans Hg.out.size Hq,r⟩)
    clear Hi Hb ho hb HK;go_wp2_with fail;go_ret2;exact⟨⟨v,ts,by rw [yes_t Hc.out];rfl,Hl.out,Hf.out.2,fun _=>Hf.out.1,fun hh=>absurd Hc.out hh⟩,Hm.out⟩
 ·have HO:=hid (openStateNo a c l x n d R F T W hn hp hi hm HL.out HR.out Hd);have HF:Hid (¬KyOk R F T n l p):=hid (fun h=>Hd h.1);clear Hd;go_enter Tryz.func15,Tryz.ntmps15;go_wp2_with fail;try rw [hW]
  clear hW;refine HO.out.mono ?_;rintro e w1 ⟨rfl,b1⟩;have HZ:=hid ((keepS Hk.out b1).alloc (keepS Hk.out b1).size (.cells #[.map none,.map none,.map none] 69));clear b1 HO k0 k1;go_wp2_with fail;go_ret2;exact⟨⟨_,[],by rw [yes_f HF.out];rfl,nilRow _ _,by simp,fun h=>absurd h HF.out,fun _=>rfl⟩,HZ.out⟩
end Go.Proofs.YtfidfeilljlbiaaGreat
