import Derived.Test.YtjdcfkmhmnblbaaGreatDoorFqg20
set_option linter.unusedVariables false
set_option linter.unusedSimpArgs false
set_option maxRecDepth 100000
set_option maxHeartbeats 40000000
namespace Go.Proofs.YtjdcfkmhmnblbaaGreatDoor
open Go.ChangeShapes Go.WideShapes Go.ChangeAt Go.RowKit
theorem La.g_x0:Tryz.prog.globalNamed "loop.example/s02772/impl.errTooLong" =some 0:=by kernel_rfl
theorem La.t_x0:(Tryz.prog.globals[0]?).map (·.type)=some 59:=by kernel_rfl
theorem La.g_x1:Tryz.prog.globalNamed "loop.example/s02772/impl.errBehind" =some 1:=by kernel_rfl
theorem La.t_x1:(Tryz.prog.globals[1]?).map (·.type)=some 59:=by kernel_rfl
theorem La.g_x2:Tryz.prog.globalNamed "loop.example/s02772/impl.errNoName" =some 7:=by kernel_rfl
theorem La.t_x2:(Tryz.prog.globals[7]?).map (·.type)=some 59:=by kernel_rfl
theorem La.g_x3:Tryz.prog.globalNamed "loop.example/s02772/impl.errKind" =some 6:=by kernel_rfl
theorem La.t_x3:(Tryz.prog.globals[6]?).map (·.type)=some 59:=by kernel_rfl
theorem La.g_x4:Tryz.prog.globalNamed "loop.example/s02772/impl.errDeep" =some 3:=by kernel_rfl
theorem La.t_x4:(Tryz.prog.globals[3]?).map (·.type)=some 59:=by kernel_rfl
theorem La.g_x5:Tryz.prog.globalNamed "loop.example/s02772/impl.errNoKeys" =some 2:=by kernel_rfl
theorem La.t_x5:(Tryz.prog.globals[2]?).map (·.type)=some 59:=by kernel_rfl
theorem La.g_x6:Tryz.prog.globalNamed "loop.example/s02772/impl.errNoLeaves" =some 8:=by kernel_rfl
theorem La.t_x6:(Tryz.prog.globals[8]?).map (·.type)=some 59:=by kernel_rfl
theorem La.g_x7:Tryz.prog.globalNamed "loop.example/s02772/impl.errUnknown" =some 13:=by kernel_rfl
theorem La.t_x7:(Tryz.prog.globals[13]?).map (·.type)=some 59:=by kernel_rfl
theorem La.g_x8:Tryz.prog.globalNamed "loop.example/s02772/impl.errTwice" =some 14:=by kernel_rfl
theorem La.t_x8:(Tryz.prog.globals[14]?).map (·.type)=some 59:=by kernel_rfl
theorem QeY {W:World}(h:laidMetH Tryz.prog [("loop.example/s02772/impl.errEnds",Rows.laid_loop_example_s02772_impl_errEnds),("loop.example/s02772/impl.errTenth",Rows.laid_loop_example_s02772_impl_errTenth),("loop.example/s02772/impl.errShorter",Rows.laid_loop_example_s02772_impl_errShorter),("loop.example/s02772/impl.errTooLong",Rows.laid_loop_example_s02772_impl_errTooLong),("loop.example/s02772/impl.errLimit",Rows.laid_loop_example_s02772_impl_errLimit),("loop.example/s02772/impl.errOrder",Rows.laid_loop_example_s02772_impl_errOrder),("loop.example/s02772/impl.errNoRuns",Rows.laid_loop_example_s02772_impl_errNoRuns),("loop.example/s02772/impl.errBehind",Rows.laid_loop_example_s02772_impl_errBehind),("loop.example/s02772/impl.errNoName",Rows.laid_loop_example_s02772_impl_errNoName),("loop.example/s02772/impl.errKind",Rows.laid_loop_example_s02772_impl_errKind),("loop.example/s02772/impl.errDeep",Rows.laid_loop_example_s02772_impl_errDeep),("loop.example/s02772/impl.errNoKeys",Rows.laid_loop_example_s02772_impl_errNoKeys),("loop.example/s02772/impl.errNoLeaves",Rows.laid_loop_example_s02772_impl_errNoLeaves),("loop.example/s02772/impl.errUnknown",Rows.laid_loop_example_s02772_impl_errUnknown),("loop.example/s02772/impl.errTwice",Rows.laid_loop_example_s02772_impl_errTwice)] W):∃y u q,QcQ W W.heap.size y u q q:=by
 have r:laidMet Tryz.prog [("loop.example/s02772/impl.errEnds",Rows.laid_loop_example_s02772_impl_errEnds),("loop.example/s02772/impl.errTenth",Rows.laid_loop_example_s02772_impl_errTenth),("loop.example/s02772/impl.errShorter",Rows.laid_loop_example_s02772_impl_errShorter),("loop.example/s02772/impl.errTooLong",Rows.laid_loop_example_s02772_impl_errTooLong),("loop.example/s02772/impl.errLimit",Rows.laid_loop_example_s02772_impl_errLimit),("loop.example/s02772/impl.errOrder",Rows.laid_loop_example_s02772_impl_errOrder),("loop.example/s02772/impl.errNoRuns",Rows.laid_loop_example_s02772_impl_errNoRuns),("loop.example/s02772/impl.errBehind",Rows.laid_loop_example_s02772_impl_errBehind),("loop.example/s02772/impl.errNoName",Rows.laid_loop_example_s02772_impl_errNoName),("loop.example/s02772/impl.errKind",Rows.laid_loop_example_s02772_impl_errKind),("loop.example/s02772/impl.errDeep",Rows.laid_loop_example_s02772_impl_errDeep),("loop.example/s02772/impl.errNoKeys",Rows.laid_loop_example_s02772_impl_errNoKeys),("loop.example/s02772/impl.errNoLeaves",Rows.laid_loop_example_s02772_impl_errNoLeaves),("loop.example/s02772/impl.errUnknown",Rows.laid_loop_example_s02772_impl_errUnknown),("loop.example/s02772/impl.errTwice",Rows.laid_loop_example_s02772_impl_errTwice)] W:=h;obtain⟨q,y,_,_,cE,cT,k,H,o,b,_,_,_,_,_,_,B,I,K⟩:=laid_sentinels2 r La.gE La.tE La.gT La.tT Tryz.underlying59 La.row Tryz.underlying270 Tryz.underlying287 rfl rfl Tryz.underlying9 La.cellsS La.cells9;obtain⟨R,u,_,_,_,cS,_,G,C,i,_,_,_,_,_,_,X,_,J⟩:=laid_sentinels2 (Qaq r) La.gE La.tE La.gS La.tS Tryz.underlying59 La.row Tryz.underlying270 Tryz.underlying287 rfl rfl Tryz.underlying9 La.cellsS La.cells9;obtain⟨T,S,_,_,_,_,_,_,F,D,_,_,_,_,_,_,P,_,_⟩:=laid_sentinels2 r.tail La.gT La.tT La.gS La.tS Tryz.underlying59 La.row Tryz.underlying270 Tryz.underlying287 rfl rfl Tryz.underlying9 La.cellsS La.cells9;have E:=Qaq (Qaq r);obtain⟨_,a_x0,_,_,_,_,_,_,_,v_x0,_⟩:=laid_sentinels2 E La.gE La.tE La.g_x0 La.t_x0 Tryz.underlying59 La.row Tryz.underlying270 Tryz.underlying287 rfl rfl Tryz.underlying9 La.cellsS La.cells9;have M:=Qaq E;obtain⟨_,a_gM,_,_,_,_,_,_,_,v_gM,_⟩:=laid_sentinels2 M La.gE La.tE La.gM La.tM Tryz.underlying59 La.row Tryz.underlying270 Tryz.underlying287 rfl rfl Tryz.underlying9 La.cellsS La.cells9;have O:=Qaq M;obtain⟨_,a_gO,_,_,_,_,_,_,_,v_gO,_⟩:=laid_sentinels2 O La.gE La.tE La.gO La.tO Tryz.underlying59 La.row Tryz.underlying270 Tryz.underlying287 rfl rfl Tryz.underlying9 La.cellsS La.cells9;have Q:=Qaq O;obtain⟨_,a_gN,_,_,_,_,_,_,_,v_gN,_⟩:=laid_sentinels2 Q La.gE La.tE La.gN La.tN Tryz.underlying59 La.row Tryz.underlying270 Tryz.underlying287 rfl rfl Tryz.underlying9 La.cellsS La.cells9;have U:=Qaq Q;obtain⟨_,a_x1,_,_,_,_,_,_,_,v_x1,_⟩:=laid_sentinels2 U La.gE La.tE La.g_x1 La.t_x1 Tryz.underlying59 La.row Tryz.underlying270 Tryz.underlying287 rfl rfl Tryz.underlying9 La.cellsS La.cells9;have V:=Qaq U;obtain⟨_,a_x2,_,_,_,_,_,_,_,v_x2,_⟩:=laid_sentinels2 V La.gE La.tE La.g_x2 La.t_x2 Tryz.underlying59 La.row Tryz.underlying270 Tryz.underlying287 rfl rfl Tryz.underlying9 La.cellsS La.cells9;have Y:=Qaq V;obtain⟨_,a_x3,_,_,_,_,_,_,_,v_x3,_⟩:=laid_sentinels2 Y La.gE La.tE La.g_x3 La.t_x3 Tryz.underlying59 La.row Tryz.underlying270 Tryz.underlying287 rfl rfl Tryz.underlying9 La.cellsS La.cells9;have Z:=Qaq Y;obtain⟨_,a_x4,_,_,_,_,_,_,_,v_x4,_⟩:=laid_sentinels2 Z La.gE La.tE La.g_x4 La.t_x4 Tryz.underlying59 La.row Tryz.underlying270 Tryz.underlying287 rfl rfl Tryz.underlying9 La.cellsS La.cells9;have p:=Qaq Z;obtain⟨_,a_x5,_,_,_,_,_,_,_,v_x5,_⟩:=laid_sentinels2 p La.gE La.tE La.g_x5 La.t_x5 Tryz.underlying59 La.row Tryz.underlying270 Tryz.underlying287 rfl rfl Tryz.underlying9 La.cellsS La.cells9;have s:=Qaq p;obtain⟨_,a_x6,_,_,_,_,_,_,_,v_x6,_⟩:=laid_sentinels2 s La.gE La.tE La.g_x6 La.t_x6 Tryz.underlying59 La.row Tryz.underlying270 Tryz.underlying287 rfl rfl Tryz.underlying9 La.cellsS La.cells9;have A:=Qaq s;obtain⟨_,a_x7,_,_,_,_,_,_,_,v_x7,_⟩:=laid_sentinels2 A La.gE La.tE La.g_x7 La.t_x7 Tryz.underlying59 La.row Tryz.underlying270 Tryz.underlying287 rfl rfl Tryz.underlying9 La.cellsS La.cells9;have L:=Qaq A;obtain⟨_,a_x8,_,_,_,_,_,_,_,v_x8,_⟩:=laid_sentinels2 L La.gE La.tE La.g_x8 La.t_x8 Tryz.underlying59 La.row Tryz.underlying270 Tryz.underlying287 rfl rfl Tryz.underlying9 La.cellsS La.cells9;obtain rfl:=QdN o C;obtain rfl:=QdN b F;obtain rfl:=QdN i D;have z:∀{a:Addr} {c:Array Value} {t:TypeId},W.heap[a.block]? =some (.cells c t (0,0)) ->a.block<W.heap.size:=fun{a c t} hb=>by
  rcases Nat.lt_or_ge a.block W.heap.size with m|m
  ·exact m
  ·rw [Array.getElem?_eq_none m] at hb;cases hb
 have j:∀{g:Nat} {v:Value},W.cell? ⟨g,0,none⟩=some v ->g<W.heap.size:=fun{g v} hc=>by
  rcases Nat.lt_or_ge g W.heap.size with m|m
  ·exact m
  ·simp [World.cell?,Array.getElem?_eq_none m] at hc
 have l1:10<W.heap.size:=j (by simpa using World.var?_cell La.gE o 0);have l2:11<W.heap.size:=j (by simpa using World.var?_cell La.gT b 0);have l3:12<W.heap.size:=j (by simpa using World.var?_cell La.gS i 0);have l_x0:0<W.heap.size:=j (by simpa using World.var?_cell La.g_x0 v_x0 0);have l_gM:4<W.heap.size:=j (by simpa using World.var?_cell La.gM v_gM 0);have l_gO:5<W.heap.size:=j (by simpa using World.var?_cell La.gO v_gO 0);have l_gN:9<W.heap.size:=j (by simpa using World.var?_cell La.gN v_gN 0);have l_x1:1<W.heap.size:=j (by simpa using World.var?_cell La.g_x1 v_x1 0);have l_x2:7<W.heap.size:=j (by simpa using World.var?_cell La.g_x2 v_x2 0);have l_x3:6<W.heap.size:=j (by simpa using World.var?_cell La.g_x3 v_x3 0);have l_x4:3<W.heap.size:=j (by simpa using World.var?_cell La.g_x4 v_x4 0);have l_x5:2<W.heap.size:=j (by simpa using World.var?_cell La.g_x5 v_x5 0);have l_x6:8<W.heap.size:=j (by simpa using World.var?_cell La.g_x6 v_x6 0);have l_x7:13<W.heap.size:=j (by simpa using World.var?_cell La.g_x7 v_x7 0);have l_x8:14<W.heap.size:=j (by simpa using World.var?_cell La.g_x8 v_x8 0);have N:15<=W.heap.size:=by omega
 exact ⟨y, u, q, {
            gT:=by simpa using World.var?_cell La.gT b 0,
            gS:=by simpa using World.var?_cell La.gS i 0,
            gE:=by simpa using World.var?_cell La.gE o 0,
            nTS:=P,nTE:=B.symm,nSE:=X.symm,
            x0:=⟨_,by simpa using World.var?_cell La.g_x0 v_x0 0⟩,
            gM:=⟨_,by simpa using World.var?_cell La.gM v_gM 0⟩,
            gO:=⟨_,by simpa using World.var?_cell La.gO v_gO 0⟩,
            gN:=⟨_,by simpa using World.var?_cell La.gN v_gN 0⟩,
            x1:=⟨_,by simpa using World.var?_cell La.g_x1 v_x1 0⟩,
            x2:=⟨_,by simpa using World.var?_cell La.g_x2 v_x2 0⟩,
            x3:=⟨_,by simpa using World.var?_cell La.g_x3 v_x3 0⟩,
            x4:=⟨_,by simpa using World.var?_cell La.g_x4 v_x4 0⟩,
            x5:=⟨_,by simpa using World.var?_cell La.g_x5 v_x5 0⟩,
            x6:=⟨_,by simpa using World.var?_cell La.g_x6 v_x6 0⟩,
            x7:=⟨_,by simpa using World.var?_cell La.g_x7 v_x7 0⟩,
            x8:=⟨_,by simpa using World.var?_cell La.g_x8 v_x8 0⟩,
            bT:=⟨_,_,K⟩,bS:=⟨_,_,J⟩,bE:=⟨_,_,I⟩,
            lG:=N,lT:=z K,lS:=z J,lE:=z I}⟩
end Go.Proofs.YtjdcfkmhmnblbaaGreatDoor
