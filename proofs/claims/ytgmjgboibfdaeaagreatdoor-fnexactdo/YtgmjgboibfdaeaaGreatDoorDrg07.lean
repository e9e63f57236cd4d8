import Derived.Test.YtgmjgboibfdaeaaGreatDoorDrg06
set_option linter.unusedVariables false
set_option linter.unusedSimpArgs false
set_option maxRecDepth 100000
set_option maxHeartbeats 40000000
namespace Go.Proofs.YtgmjgboibfdaeaaGreatDoor
open Go.ChangeShapes Go.WideShapes Go.ChangeAt Go.RowKit Go.Maps
variable {P:Program}{a:Act}{t':TypeId}{v v' x':Value}{w w':World}
theorem QaN (B m0:Nat)(bv:Value)(zs0:List Int)(w:World)(hm:m0<18446744073709551616)(hB:B<=w.heap.size)(hl:zs0.length<=1000000000000)(ho:Own w B bv zs0):
  Cl 133 #[bv,.int .u64 (m0:Int)] w fun e w'=>∃v,e=.returned v/\ Own w' B v (zs0++uvF 9 m0)/\ Gr w w' bv v/\ w.heap.size<w'.heap.size:=by
 obtain⟨Z,hi,U,V,Y⟩:=info_parts Tryz.infoByte;go_enter Tryz.func133,Tryz.ntmps133;go_wp2_with fail;go_loopw [0,1] (fun b v wr=>∃(k m:Nat) (r:List Int),k<=9/\ m<128^(k+1)/\ m<18446744073709551616/\ v=.int .u64 (m:Int)/\ Own wr B b r/\ Gr w wr bv b/\ w.heap.size<=wr.heap.size/\ r.length+k<=zs0.length+9/\ r++uvF k m=zs0++uvF 9 m0) (fun _ v _=>(intOf v).toNat);case atStart=>exact⟨9,m0,zs0,Nat.le_refl _,by omega,hm,rfl,ho,Gr.refl _ _,Nat.le_refl _,Nat.le_refl _,rfl⟩
 case round=>
  obtain⟨k,m,r,L,Q,K,rfl,z,E,C,X,M⟩:=hrel;have i:Hid (r++uvF k m=zs0++uvF 9 m0):=M;have p:Hid (m<128^(k+1)):=Q;have o:=hid E;clear M ho Q E;unfold Own at z;by_cases O:m<128
  ·go_wp2_with (at_builtin;refine Qao rfl _ _ 78 rfl B 5 Z (.int .u8 0) 1 1 Tryz.underlying78 hi U V Y rfl (by decide) _ _ _ rfl (z.alloc _) ⟨wr.heap.size,0,none⟩ 1 1 [.int .u8 (m:Int)] rfl rfl ?c1 ?c2 ?c3 ?c4 ?c5 ?_);case c1=>exact cell_one_new _ _ _
   case c2=>intro u t;simp at t;subst t;rfl
   case c3=>unfold maxLen;omega
   case c4=>omega
   case c5=>simp;omega
   ·intro v' w1 g q y;have R:Own w1 B v' (zs0++uvF 9 m0):=by
     rw [<- i.out,Qhp k m O];unfold Own;rw [List.length_append,List.map_append];exact g
    have s:=hid ((o.alloc _).trans (Gr.app (b':=v') q (by simpa using y)));have A:=q.size;simp at A;clear g q z y o;go_wp2;go_ret;exact⟨v',rfl,R,s,by omega⟩
  ·have I:=Qkk m K;have J:bits BinOp.or IntKind.u8 ((m:Int)%128) 128=128+(m:Int)%128:=by
    have:=Qna (m%128) (by omega);simpa using this
   go_wp2_with (at_builtin;refine Qao rfl _ _ 78 rfl B 5 Z (.int .u8 0) 1 1 Tryz.underlying78 hi U V Y rfl (by decide) _ _ _ rfl (z.alloc _) ⟨wr.heap.size,0,none⟩ 1 1 [.int .u8 (128+(m:Int)%128)] rfl rfl ?d1 ?d2 ?d3 ?d4 ?d5 ?_);case d1=>exact cell_one_new _ _ _
   case d2=>intro u t;simp at t;subst t;rfl
   case d3=>unfold maxLen;omega
   case d4=>omega
   case d5=>simp;omega
   ·intro v' w1 g q y;have N:1<=k:=by
     have:=p.out;rcases Nat.eq_zero_or_pos k with rfl|h
     ·simp at this;omega
     ·exact h
    obtain⟨j,rfl⟩:∃j,k=j+1:=⟨k - 1,by omega⟩;have R:Own w1 B v' (r++[128+(m:Int)%128]):=by
     unfold Own;rw [List.length_append,List.map_append];exact g
    have G:Hid (r++[128+(m:Int)%128]++uvF j (m/128)=zs0++uvF 9 m0):=by
     have:=i.out;rw [Qho j m O] at this;show _=_;rw [<- this];simp
    have H:Hid (m/128<128^(j+1)):=by
     have:=p.out;rw [Nat.pow_succ] at this;show _<_;omega
    have s:=hid ((o.alloc _).trans (Gr.app (b':=v') q (by simpa using y)));have A:=q.size;simp at A;clear g q z i p J I y o;go_wp2;go_roundw;case rel=>exact⟨j,m/128,_,by omega,H,by omega,by go_num,R,s,by omega,by simp;omega,G⟩
    case measure=>simp [intOf];omega
theorem QaP{o:Oper}{K:Act ->World ->Prop}{Q:Exit ->Act ->World ->Prop}(s x:Operand)(t u:TypeId)(ho:o.op=.call {callee:=.builtin .append,args:=#[s,x],argTypes:=#[t,u]})(hr:(Builtin.append_ #[t,u] t' #[v,x']).run P w=.ok v' w')(hs:a.eval s=v)(hx:a.eval x=x')(ht:o.type=t')(h:K (a.put o.dst v') w'):Oper.wp P o a w K Q:=by
 subst ht;unfold Oper.wp execOp;simp only [ho,resolve,invoke,builtin,Sem.run_bind,Sem.run_pure,Result.andThen_ok,List.map_toArray,List.map_cons,List.map_nil,hs,hx,hr];exact h
theorem Qab{ops:Array Oper}{rest:List Oper}{o:Oper}{Q:Exit ->Act ->World ->Prop}(hgd:o.guard=none)(s x:Operand)(t u:TypeId)(ho:o.op=.call {callee:=.builtin .append,args:=#[s,x],argTypes:=#[t,u]})(hr:(Builtin.append_ #[t,u] t' #[v,x']).run P w=.ok v' w')(hs:a.eval s=v)(hx:a.eval x=x')(ht:o.type=t')(h:wpList P ops Q rest (a.put o.dst v') w'):wpList P ops Q (o::rest) a w:=by
 refine wpList_plain hgd fun K hK=> ?_;exact QaP s x t u ho hr hs hx ht (hK _ _ h)
theorem Qnp (B:Nat)(v:Value)(zs:List Int)(s:ByteArray)(w:World)(ho:Own w B v zs)(hB:B<=w.heap.size)(hl:zs.length<=10000000000)(hs:s.size<=1048576):
  ∃v' w',(Builtin.append_ #[78,9] 78 #[v,.string s]).run Tryz.prog w=.ok v' w'/\ Own w' B v' (zs++QcW s)/\ Gr w w' v v':=by
 obtain⟨u,hi,y,r,z⟩:=info_parts Tryz.infoByte;have m:w.ownsRow B 5 1 v zs.length (zs.map (Value.int .u8)):=ho;obtain⟨v',w',q,i,b,Q⟩:=Lib.run_append_own_string (P:=Tryz.prog) w B 78 9 78 5 u Tryz.underlying78 Tryz.underlying9 hi y r z v zs.length _ m s (by unfold maxLen;omega) (by omega) hB;refine⟨v',w',q,?_,b,?_⟩
 ·unfold Own;simp only [List.length_append,List.map_append,Qbw,QcC];exact i
 ·rcases m.2 with ⟨rfl,o⟩|⟨g,k,h,rfl,t,E,V,U,A,Y⟩
  ·have M:w.ownsRow w.heap.size 5 1 (.slice none 0 0) zs.length (zs.map (Value.int .u8)):=⟨m.1,.inl ⟨rfl,o⟩⟩;obtain⟨v2,Z,j,p,_,_⟩:=Lib.run_append_own_string (P:=Tryz.prog) w w.heap.size 78 9 78 5 u Tryz.underlying78 Tryz.underlying9 hi y r z _ zs.length _ M s (by unfold maxLen;omega) (by omega) zL;rw [q] at j;injection j with e1 e2;subst e1;subst e2;rcases p.2 with ⟨rfl,_⟩|⟨g,k,h,rfl,t,_⟩
   ·exact .inl rfl
   ·exact .inr ⟨g,rfl,t⟩
  ·by_cases O:zs.length+s.size<=k
   ·have j:=Lib.run_append_room_string (P:=Tryz.prog) w 78 9 78 5 u Tryz.underlying78 Tryz.underlying9 hi r g zs.length k h E s O (by rw [A];omega);rw [q] at j;injection j with e1 e2;subst e1;exact .inl rfl
   ·have j:=Lib.run_append_grow_string (P:=Tryz.prog) w 78 9 78 5 u (.int .u8 0) Tryz.underlying78 Tryz.underlying9 hi y ⟨g,0,none⟩ zs.length k _ (by rw [r];simp) (m.cells (g:=g) rfl) s (by omega) (by omega) (by rw [z];exact growslice_fits (by omega) (by omega));rw [q] at j;injection j with e1 e2;subst e1;exact .inr ⟨_,rfl,Nat.le_refl _⟩
theorem Qc5 (B:Nat)(v:Value)(zs ns:List Int)(a:Addr)(m c:Nat)(w:World)(ho:Own w B v zs)(hm:ns.length=m)(hn:∀i u,(ns.map (Value.int .u8))[i]? =some u ->w.cell? (a.add i)=some u)(hB:B<=w.heap.size)(hl:zs.length+m<=10000000000):
  ∃v' w',(Builtin.append_ #[78,78] 78 #[v,.slice (some a) m c]).run Tryz.prog w=.ok v' w'/\ Own w' B v' (zs++ns)/\ Gr w w' v v':=by
 obtain⟨o,hi,h,g,t⟩:=info_parts Tryz.infoByte;have r:w.ownsRow B 5 1 v zs.length (zs.map (Value.int .u8)):=ho;obtain⟨v',w',y,j,k,b,q⟩:=run_append_own_at (P:=Tryz.prog) w B 78 78 5 o (.int .u8 0) 1 1 Tryz.underlying78 hi h g t rfl (by decide) v zs.length _ r a m c (ns.map (Value.int .u8)) (by simp [hm]) hn (fun u hu=>by obtain⟨z,_,rfl⟩:=List.mem_map.1 hu;rfl) (by unfold maxLen;omega) (by omega) hB;refine⟨v',w',y,?_,Gr.app k q⟩;unfold Own;rw [List.length_append,List.map_append,hm];exact j
structure LvB (l:List Lf):Prop where
 rep:∀i,i<l.length ->0<=(gL l i).r/\ (gL l i).r<8
 seq:∀i,i<l.length ->0<=(gL l i).q/\ (gL l i).q<=1000000000
 val:∀i,i<l.length ->(gL l i).v.size<=200
 len:l.length<=1000
 dis:Dis l l.length
end Go.Proofs.YtgmjgboibfdaeaaGreatDoor
