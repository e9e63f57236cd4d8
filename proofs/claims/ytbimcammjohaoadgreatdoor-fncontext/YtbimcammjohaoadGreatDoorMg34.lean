import Derived.Test.YtbimcammjohaoadGreatDoorMg25
import Derived.Test.YtbimcammjohaoadGreatDoorCards
import Derived.Test.YtbimcammjohaoadGreatDoorTie
import Derived.ChangeVars
import Derived.Stop.LaidTwo
import Derived.LaidHandle
import Derived.Deep.DeepHandedRow
import Derived.SevenTiedAt
import Derived.Test.YtbimcammjohaoadGreatDoorMg32
import Derived.Test.YtbimcammjohaoadGreatDoorMg33
namespace Go.Proofs.YtbimcammjohaoadGreatDoor
open Go.ChangeShapes Go.WideShapes Go.ChangeAt Go.RowKit
set_option linter.unusedVariables false
set_option linter.unusedSimpArgs false

theorem La.own : ownKnob Tryz.prog.godebug = none := by kernel_rfl
theorem La.laidOut : laidOutB Tryz.prog = true := by kernel_rfl
theorem La.gT : Tryz.prog.globalNamed "loop.example/s02772/impl.errTenth" = some 5 := by kernel_rfl
theorem La.gS : Tryz.prog.globalNamed "loop.example/s02772/impl.errShorter" = some 6 := by kernel_rfl
theorem La.gE : Tryz.prog.globalNamed "loop.example/s02772/impl.errEnds" = some 4 := by kernel_rfl
theorem La.gY : Tryz.prog.globalNamed "errors.errorType" = some 0 := by kernel_rfl
theorem La.tT : (Tryz.prog.globals[5]?).map (·.type) = some 61 := by kernel_rfl
theorem La.tS : (Tryz.prog.globals[6]?).map (·.type) = some 61 := by kernel_rfl
theorem La.tE : (Tryz.prog.globals[4]?).map (·.type) = some 61 := by kernel_rfl
theorem La.cellsS : Tryz.prog.cellsOf 184 = 1 := by kernel_rfl
theorem La.cells9 : Tryz.prog.cellsOf 9 = 1 := by kernel_rfl
theorem La.star : "*" ++ "errors.errorString" = "*errors.errorString" := by decide
theorem La.row (u : TypeId) (h : Tryz.prog.typeName? 3 u = some "*errors.errorString") : u = 164 :=
  typeName_ptr_named (nm := "errors.errorString") (by rw [La.star]; kernel_rfl) (by kernel_rfl) (by decide) u (by rw [La.star]; exact h)
theorem La.rt : (Tryz.prog.cutTypes.find? (·.1 == "internal/reflectlite.rtype")).map (·.2) = some 126 := by kernel_rfl
theorem La.oneRow : ((List.range 196).filter fun t => Tryz.prog.rowNamed t [101, 114, 114, 111, 114]) = [61] := by kernel_rfl
theorem La.size : Tryz.prog.types.size = 196 := by kernel_rfl

theorem laidMet_skip {P : Program} {x y : String × DataW Unit} {r : List (String × DataW Unit)} {w : World} (h : laidMet P (x :: y :: r) w) : laidMet P (x :: r) w := by
  obtain ⟨ps, hv, hnd, hrows⟩ := h
  obtain ⟨n, d⟩ := x
  obtain ⟨n', d'⟩ := y
  obtain ⟨g, t, cs, fuel, p, q, h1, h2, h3, h4, hq, rfl⟩ := hv
  obtain ⟨g', t', cs', fuel', p', q', _, _, _, _, hq', rfl⟩ := hq
  refine ⟨_ ++ q', ⟨g, t, cs, fuel, p, q', h1, h2, h3, h4, hq', rfl⟩, List.Nodup.sublist ?_ hnd, fun b off hm => hrows b off ?_⟩
  · exact (List.sublist_append_right _ q').append_left _
  · rcases List.mem_append.1 hm with h | h
    · exact List.mem_append_left _ h
    · exact List.mem_append_right _ (List.mem_append_right _ h)

theorem iface_inj {tp : TypeId} {a b : Addr} {o : Option (Array Value)} (h1 : o = some #[.iface tp (.pointer (some a))]) (h2 : o = some #[.iface tp (.pointer (some b))]) : a = b := by
  rw [h1] at h2; simpa using h2

theorem La.gM : Tryz.prog.globalNamed "loop.example/s02772/impl.errLimit" = some 1 := by kernel_rfl
theorem La.tM : (Tryz.prog.globals[1]?).map (·.type) = some 61 := by kernel_rfl
theorem La.gO : Tryz.prog.globalNamed "loop.example/s02772/impl.errOrder" = some 2 := by kernel_rfl
theorem La.tO : (Tryz.prog.globals[2]?).map (·.type) = some 61 := by kernel_rfl
theorem La.gN : Tryz.prog.globalNamed "loop.example/s02772/impl.errNoRuns" = some 3 := by kernel_rfl
theorem La.tN : (Tryz.prog.globals[3]?).map (·.type) = some 61 := by kernel_rfl

theorem errs_of_laidC {W : World} (h : laidMetH Tryz.prog [("errors.errorType", Rows.laid_errors_errorType), ("loop.example/s02772/impl.errEnds", Rows.laid_loop_example_s02772_impl_errEnds), ("loop.example/s02772/impl.errTenth", Rows.laid_loop_example_s02772_impl_errTenth), ("loop.example/s02772/impl.errShorter", Rows.laid_loop_example_s02772_impl_errShorter), ("loop.example/s02772/impl.errLimit", Rows.laid_loop_example_s02772_impl_errLimit), ("loop.example/s02772/impl.errOrder", Rows.laid_loop_example_s02772_impl_errOrder), ("loop.example/s02772/impl.errNoRuns", Rows.laid_loop_example_s02772_impl_errNoRuns)] W) :
    ∃ aT aS aE aM aO aN, Errs W W.heap.size aT aS aE aE ∧ W.var? Tryz.prog "loop.example/s02772/impl.errEnds" = some #[.iface 164 (.pointer (some aE))] ∧ W.var? Tryz.prog "loop.example/s02772/impl.errTenth" = some #[.iface 164 (.pointer (some aT))] ∧ W.var? Tryz.prog "loop.example/s02772/impl.errShorter" = some #[.iface 164 (.pointer (some aS))] ∧ W.var? Tryz.prog "loop.example/s02772/impl.errLimit" = some #[.iface 164 (.pointer (some aM))] ∧ W.var? Tryz.prog "loop.example/s02772/impl.errOrder" = some #[.iface 164 (.pointer (some aO))] ∧ W.var? Tryz.prog "loop.example/s02772/impl.errNoRuns" = some #[.iface 164 (.pointer (some aN))] := by
  have h' : laidMet Tryz.prog [("loop.example/s02772/impl.errEnds", Rows.laid_loop_example_s02772_impl_errEnds), ("loop.example/s02772/impl.errTenth", Rows.laid_loop_example_s02772_impl_errTenth), ("loop.example/s02772/impl.errShorter", Rows.laid_loop_example_s02772_impl_errShorter), ("loop.example/s02772/impl.errLimit", Rows.laid_loop_example_s02772_impl_errLimit), ("loop.example/s02772/impl.errOrder", Rows.laid_loop_example_s02772_impl_errOrder), ("loop.example/s02772/impl.errNoRuns", Rows.laid_loop_example_s02772_impl_errNoRuns)] W ∧ handlesMet Tryz.prog [("errors.errorType", Rows.laid_errors_errorType)] W := h
  obtain ⟨hm, hh⟩ := h'
  obtain ⟨name, u, ty, e1, e2, e3, e4, e5⟩ := hh _ (List.mem_singleton.2 rfl)
  have en : name = [101, 114, 114, 111, 114] := (Option.some.inj e1).symm
  subst en
  obtain rfl := Option.some.inj (La.rt.symm.trans e2)
  have hmem : ty ∈ (List.range 196).filter fun t => Tryz.prog.rowNamed t [101, 114, 114, 111, 114] := List.mem_filter.2 ⟨List.mem_range.2 (by rw [← La.size]; exact e3), e4⟩
  rw [La.oneRow] at hmem
  obtain rfl := List.mem_singleton.1 hmem
  have hth : typeHandle Tryz.prog 61 = .pointer (some ⟨7, 61, none⟩) := by kernel_rfl
  rw [hth] at e5
  have gY : W.cell? ⟨0, 0, none⟩ = some (.iface 126 (.agg #[.pointer (some ⟨7, 61, none⟩)])) := by simpa using World.var?_cell La.gY e5 0
  obtain ⟨aE, aT, _, _, cE, cT, tE, tT, vE, vT, _, _, _, _, _, _, nET, bE, bT⟩ := laid_sentinels2 hm La.gE La.tE La.gT La.tT Tryz.underlying61 La.row Tryz.underlying164 Tryz.underlying184 rfl rfl Tryz.underlying9 La.cellsS La.cells9
  obtain ⟨aE1, aS, _, _, _, cS, _, tS, vE1, vS, _, _, _, _, _, _, nES, _, bS⟩ := laid_sentinels2 (laidMet_skip hm) La.gE La.tE La.gS La.tS Tryz.underlying61 La.row Tryz.underlying164 Tryz.underlying184 rfl rfl Tryz.underlying9 La.cellsS La.cells9
  obtain ⟨aT1, aS1, _, _, _, _, _, _, vT1, vS1, _, _, _, _, _, _, nTS, _, _⟩ := laid_sentinels2 hm.tail La.gT La.tT La.gS La.tS Tryz.underlying61 La.row Tryz.underlying164 Tryz.underlying184 rfl rfl Tryz.underlying9 La.cellsS La.cells9
  obtain ⟨_, aM, _, _, _, _, _, _, _, vM, _⟩ := laid_sentinels2 (laidMet_skip (laidMet_skip hm)) La.gE La.tE La.gM La.tM Tryz.underlying61 La.row Tryz.underlying164 Tryz.underlying184 rfl rfl Tryz.underlying9 La.cellsS La.cells9
  obtain ⟨_, aO, _, _, _, _, _, _, _, vO, _⟩ := laid_sentinels2 (laidMet_skip (laidMet_skip (laidMet_skip hm))) La.gE La.tE La.gO La.tO Tryz.underlying61 La.row Tryz.underlying164 Tryz.underlying184 rfl rfl Tryz.underlying9 La.cellsS La.cells9
  obtain ⟨_, aN, _, _, _, _, _, _, _, vN, _⟩ := laid_sentinels2 (laidMet_skip (laidMet_skip (laidMet_skip (laidMet_skip hm)))) La.gE La.tE La.gN La.tN Tryz.underlying61 La.row Tryz.underlying164 Tryz.underlying184 rfl rfl Tryz.underlying9 La.cellsS La.cells9
  obtain rfl := iface_inj vE vE1
  obtain rfl := iface_inj vT vT1
  obtain rfl := iface_inj vS vS1
  have lt : ∀ {a : Addr} {c : Array Value} {t : TypeId}, W.heap[a.block]? = some (.cells c t (0, 0)) → a.block < W.heap.size := fun {a c t} hb => by
    rcases Nat.lt_or_ge a.block W.heap.size with h1 | h1
    · exact h1
    · rw [Array.getElem?_eq_none h1] at hb; cases hb
  have lc : ∀ {g : Nat} {v : Value}, W.cell? ⟨g, 0, none⟩ = some v → g < W.heap.size := fun {g v} hc => by
    rcases Nat.lt_or_ge g W.heap.size with h1 | h1
    · exact h1
    · simp [World.cell?, Array.getElem?_eq_none h1] at hc
  have l0 := lc gY
  have l1 : 4 < W.heap.size := lc (by simpa using World.var?_cell La.gE vE 0)
  have l2 : 5 < W.heap.size := lc (by simpa using World.var?_cell La.gT vT 0)
  have l3 : 6 < W.heap.size := lc (by simpa using World.var?_cell La.gS vS 0)
  have l4 : 1 < W.heap.size := lc (by simpa using World.var?_cell La.gM vM 0)
  have l5 : 2 < W.heap.size := lc (by simpa using World.var?_cell La.gO vO 0)
  have l6 : 3 < W.heap.size := lc (by simpa using World.var?_cell La.gN vN 0)
  have lg : 7 ≤ W.heap.size := by omega
  exact ⟨aT, aS, aE, aM, aO, aN, { gT := by simpa using World.var?_cell La.gT vT 0
                                   gS := by simpa using World.var?_cell La.gS vS 0
                                   gE := by simpa using World.var?_cell La.gE vE 0
                                   gY := gY, nTS := nTS, nTE := nET.symm, nSE := nES.symm
                                   gM := ⟨_, by simpa using World.var?_cell La.gM vM 0⟩
                                   gO := ⟨_, by simpa using World.var?_cell La.gO vO 0⟩
                                   gN := ⟨_, by simpa using World.var?_cell La.gN vN 0⟩
                                   bT := ⟨_, _, bT⟩, bS := ⟨_, _, bS⟩, bE := ⟨_, _, bE⟩
                                   lG := lg, lT := lt bT, lS := lt bS, lE := lt bE }, vE, vT, vS, vM, vO, vN⟩
theorem vars_read3 {H : Type} (enc : TypeId × Value → H) {P : Program} {W : World} {n0 n1 n2 : String} {g0 g1 g2 : Nat} {t : TypeId} {ms : Array (String × TypeId)} {x0 x1 x2 : Value} (hi : P.underlying t = some (.interface ms))
    (hg0 : P.globalNamed n0 = some g0) (ht0 : (P.globals[g0]?).map (·.type) = some t) (h0 : W.var? P n0 = some #[x0]) (i0 : IsIface x0)
    (hg1 : P.globalNamed n1 = some g1) (ht1 : (P.globals[g1]?).map (·.type) = some t) (h1 : W.var? P n1 = some #[x1]) (i1 : IsIface x1)
    (hg2 : P.globalNamed n2 = some g2) (ht2 : (P.globals[g2]?).map (·.type) = some t) (h2 : W.var? P n2 = some #[x2]) (i2 : IsIface x2) (sp : Nat → Bool) :
    DataW.TrodVars enc P W sp [n0, n1, n2] [tok enc x0, tok enc x1, tok enc x2] [.cell g0 0, .cell g1 0, .cell g2 0] :=
  ⟨g0, t, #[x0], 1, [], [.cell g1 0, .cell g2 0], hg0, ht0, h0, trod_held hi i0 0, ⟨g1, t, #[x1], 1, [], [.cell g2 0], hg1, ht1, h1, trod_held hi i1 0, ⟨g2, t, #[x2], 1, [], [], hg2, ht2, h2, trod_held hi i2 0, rfl, rfl⟩, rfl⟩, rfl⟩

theorem var?_below {P : Program} {W W' : World} {n : String} {cs : Array Value} (h : W.var? P n = some cs) (hb : Below W.heap.size W W') : W'.var? P n = some cs := by
  unfold World.var? at h ⊢
  cases hg : P.globalNamed n with
  | none => simp [hg] at h
  | some g =>
    simp only [hg, Option.bind_some] at h ⊢
    have hlt : g < W.heap.size := by
      rcases Nat.lt_or_ge g W.heap.size with h' | h'
      · exact h'
      · simp [Array.getElem?_eq_none h'] at h
    rw [hb.block g hlt]; exact h

theorem vars_read4 {H : Type} (enc : TypeId × Value → H) {P : Program} {W : World} {n0 n1 n2 n3 : String} {g0 g1 g2 g3 : Nat} {t : TypeId} {ms : Array (String × TypeId)} {x0 x1 x2 x3 : Value} (hi : P.underlying t = some (.interface ms))
    (hg0 : P.globalNamed n0 = some g0) (ht0 : (P.globals[g0]?).map (·.type) = some t) (h0 : W.var? P n0 = some #[x0]) (i0 : IsIface x0)
    (hg1 : P.globalNamed n1 = some g1) (ht1 : (P.globals[g1]?).map (·.type) = some t) (h1 : W.var? P n1 = some #[x1]) (i1 : IsIface x1)
    (hg2 : P.globalNamed n2 = some g2) (ht2 : (P.globals[g2]?).map (·.type) = some t) (h2 : W.var? P n2 = some #[x2]) (i2 : IsIface x2)
    (hg3 : P.globalNamed n3 = some g3) (ht3 : (P.globals[g3]?).map (·.type) = some t) (h3 : W.var? P n3 = some #[x3]) (i3 : IsIface x3) (sp : Nat → Bool) :
    DataW.TrodVars enc P W sp [n0, n1, n2, n3] [tok enc x0, tok enc x1, tok enc x2, tok enc x3] [.cell g0 0, .cell g1 0, .cell g2 0, .cell g3 0] :=
  ⟨g0, t, #[x0], 1, [], [.cell g1 0, .cell g2 0, .cell g3 0], hg0, ht0, h0, trod_held hi i0 0, ⟨g1, t, #[x1], 1, [], [.cell g2 0, .cell g3 0], hg1, ht1, h1, trod_held hi i1 0, ⟨g2, t, #[x2], 1, [], [.cell g3 0], hg2, ht2, h2, trod_held hi i2 0, ⟨g3, t, #[x3], 1, [], [], hg3, ht3, h3, trod_held hi i3 0, rfl, rfl⟩, rfl⟩, rfl⟩, rfl⟩

theorem vars_read6 {H : Type} (enc : TypeId × Value → H) {P : Program} {W : World} {n0 n1 n2 n3 n4 n5 : String} {g0 g1 g2 g3 g4 g5 : Nat} {t : TypeId} {ms : Array (String × TypeId)} {x0 x1 x2 x3 x4 x5 : Value} (hi : P.underlying t = some (.interface ms))
    (hg0 : P.globalNamed n0 = some g0) (ht0 : (P.globals[g0]?).map (·.type) = some t) (h0 : W.var? P n0 = some #[x0]) (i0 : IsIface x0)
    (hg1 : P.globalNamed n1 = some g1) (ht1 : (P.globals[g1]?).map (·.type) = some t) (h1 : W.var? P n1 = some #[x1]) (i1 : IsIface x1)
    (hg2 : P.globalNamed n2 = some g2) (ht2 : (P.globals[g2]?).map (·.type) = some t) (h2 : W.var? P n2 = some #[x2]) (i2 : IsIface x2)
    (hg3 : P.globalNamed n3 = some g3) (ht3 : (P.globals[g3]?).map (·.type) = some t) (h3 : W.var? P n3 = some #[x3]) (i3 : IsIface x3)
    (hg4 : P.globalNamed n4 = some g4) (ht4 : (P.globals[g4]?).map (·.type) = some t) (h4 : W.var? P n4 = some #[x4]) (i4 : IsIface x4)
    (hg5 : P.globalNamed n5 = some g5) (ht5 : (P.globals[g5]?).map (·.type) = some t) (h5 : W.var? P n5 = some #[x5]) (i5 : IsIface x5)
    (sp : Nat → Bool) :
    DataW.TrodVars enc P W sp [n0, n1, n2, n3, n4, n5] [tok enc x0, tok enc x1, tok enc x2, tok enc x3, tok enc x4, tok enc x5] [.cell g0 0, .cell g1 0, .cell g2 0, .cell g3 0, .cell g4 0, .cell g5 0] :=
  ⟨g0, t, #[x0], 1, [], [.cell g1 0, .cell g2 0, .cell g3 0, .cell g4 0, .cell g5 0], hg0, ht0, h0, trod_held hi i0 0, ⟨g1, t, #[x1], 1, [], [.cell g2 0, .cell g3 0, .cell g4 0, .cell g5 0], hg1, ht1, h1, trod_held hi i1 0, ⟨g2, t, #[x2], 1, [], [.cell g3 0, .cell g4 0, .cell g5 0], hg2, ht2, h2, trod_held hi i2 0, ⟨g3, t, #[x3], 1, [], [.cell g4 0, .cell g5 0], hg3, ht3, h3, trod_held hi i3 0, ⟨g4, t, #[x4], 1, [], [.cell g5 0], hg4, ht4, h4, trod_held hi i4 0, ⟨g5, t, #[x5], 1, [], [], hg5, ht5, h5, trod_held hi i5 0, rfl, rfl⟩, rfl⟩, rfl⟩, rfl⟩, rfl⟩, rfl⟩

set_option maxRecDepth 100000 in
theorem openBytesC {H : Type} {enc : TypeId × Value → H} {W : World} {r : Reach} {b0 base : Nat} {held : Bool} {v : Value} {d : DataW H} {p : List MemPlace}
    (hval : Value.okWide Tryz.prog W r b0 22 v) (h : DataW.Trod enc Tryz.prog W base (fun _ => true) held 22 v d p) :
    ∃ a n c f, v = .slice a n c ∧ n ≤ 9223372036854775807 ∧ Seg W a n f ∧ Byt f ∧ n ≤ c := by
  obtain ⟨a0, len0, cap0, rfl⟩ := okWide_slice Tryz.underlying22 hval
  obtain ⟨z0, w0⟩ : ∃ z0 : List Int, (a0 = none ∧ len0 = 0 ∧ cap0 = 0 ∧ z0 = []) ∨ ∃ x, a0 = some x ∧ len0 ≤ cap0 ∧ cap0 ≤ maxLen ∧ z0.length = cap0 ∧ (∀ i, i < z0.length → W.cell? (x.add i) = some (.int .u8 (z0.getD i 0))) ∧ ∀ n ∈ z0, (Lit.int .u8 n).wf = true := by
    obtain ⟨fuel, hf⟩ := h
    rcases open_ints Tryz.underlying22 Tryz.underlying5 (by kernel_rfl) hf with ⟨hcs, _⟩ | ⟨x, l, c, zs, hcs, _, hl, hm, hz, _, hcell, hwz⟩
    · simp [Value.cells] at hcs
      obtain ⟨rfl, rfl, rfl⟩ := hcs
      exact ⟨[], .inl ⟨rfl, rfl, rfl, rfl⟩⟩
    · simp [Value.cells] at hcs
      obtain ⟨rfl, rfl, rfl⟩ := hcs
      exact ⟨zs, .inr ⟨_, rfl, hl, hm, by first | exact hz | simpa using hz | omega, hcell, hwz⟩⟩
  obtain ⟨s, hb, hl⟩ := seg_of w0
  exact ⟨a0, len0, cap0, _, rfl, hl, s, hb, by rcases w0 with ⟨_, h1, h2, _⟩ | ⟨_, _, h1, _⟩ <;> omega⟩
set_option maxRecDepth 100000 in
theorem openBytes {H : Type} {enc : TypeId × Value → H} {W : World} {r : Reach} {b0 base : Nat} {held : Bool} {v : Value} {d : DataW H} {p : List MemPlace}
    (hval : Value.okWide Tryz.prog W r b0 22 v) (h : DataW.Trod enc Tryz.prog W base (fun _ => true) held 22 v d p) :
    ∃ a n c f, v = .slice a n c ∧ n ≤ 9223372036854775807 ∧ Seg W a n f ∧ Byt f := by
  obtain ⟨a, n, c, f, h1, h2, h3, h4, _⟩ := openBytesC hval h
  exact ⟨a, n, c, f, h1, h2, h3, h4⟩
end Go.Proofs.YtbimcammjohaoadGreatDoor

namespace Go.Proofs.YtbimcammjohaoadGreatDoor
open Go.ChangeShapes Go.WideShapes Go.ChangeAt Go.RowKit
set_option linter.unusedVariables false
set_option linter.unusedSimpArgs false

theorem set2 {w : World} {b : Nat} {v0 v1 : Value} (k0 : w.cell? ⟨b, 0, none⟩ = some v0) (k1 : w.cell? ⟨b, 1, none⟩ = some v1) (x y : Value) : ((w.setCell ⟨b, 0, none⟩ x).setCell ⟨b, 1, none⟩ y).cell? ⟨b, 0, none⟩ = some x ∧ ((w.setCell ⟨b, 0, none⟩ x).setCell ⟨b, 1, none⟩ y).cell? ⟨b, 1, none⟩ = some y :=
  ⟨(World.cell?_setCell_other _ _ _ _ (by simp)).trans (World.cell?_setCell_same _ _ _ k0), World.cell?_setCell_same _ _ _ ((World.cell?_setCell_other _ _ _ _ (by simp)).trans k1)⟩

set_option maxRecDepth 100000 in
set_option maxHeartbeats 1000000 in
theorem rdDot (B rb : Nat) (w : World) (h : Rd w B rb) (hB : B ≤ w.heap.size) :
    Calls Tryz.prog 44 #[.pointer (some ⟨rb, 0, none⟩)] w fun e w' => ∃ r s : Nat, e = .returned (.agg #[.int .i64 (r : Int), .int .i64 (s : Int)]) ∧ r < 8 ∧ 1 ≤ s ∧ s ≤ 1000000000 ∧ Rd w' B rb ∧ w.grownBy w' (some rb) := by
  obtain ⟨W, hW⟩ : ∃ W, w.alloc (.cells #[.int .i64 0, .int .i64 0] 34) = W := ⟨_, rfl⟩
  have bW : Below w.heap.size w W := by rw [← hW]; exact (Below.refl _ _).alloc (Nat.le_refl _) _
  have k0 : W.cell? ⟨w.heap.size, 0, none⟩ = some (.int .i64 0) := by rw [← hW]; simp
  have k1 : W.cell? ⟨w.heap.size, 1, none⟩ = some (.int .i64 0) := by rw [← hW]; simp
  have f0 : W.frozen? ⟨w.heap.size, 0, none⟩ = false := by rw [← hW]; simp
  have f1 : W.frozen? ⟨w.heap.size, 1, none⟩ = false := by rw [← hW]; simp
  have zW : Hid (W.heap.size = w.heap.size + 1) := by rw [← hW]; exact hid (by simp)
  have HR := hid (h.below (bW.mono hB))
  have hrb := h.lt
  have HBW := hid bW
  clear h bW
  go_enter Tryz.func44, Tryz.ntmps44
  go_wp2_with fail
  try rw [hW]
  clear hW
  refine (rdNext B rb W HR.out).mono ?_
  rintro e w1 ⟨k, hk, rfl, r1, g1⟩
  have z1 := g1.size
  have zz : w.heap.size < w1.heap.size := by have := zW.out; omega
  have nb : some w.heap.size ≠ some rb := fun e => by injection e with e; omega
  have cb := fun i => World.cell?_of_block (a := ⟨w.heap.size, i, none⟩) (g1.block w.heap.size (by have := zW.out; omega) nb)
  have fb := fun i => World.frozen?_of_block (a := ⟨w.heap.size, i, none⟩) (g1.block w.heap.size (by have := zW.out; omega) nb)
  have m0 := (cb 0).trans k0
  have m1 := (cb 1).trans k1
  have y0 := (fb 0).trans f0
  have y1 := (fb 1).trans f1
  have HR1 := hid r1
  have HG1 : Hid (w.grownBy w1 (some rb)) := hid (grown_trans ⟨HBW.out.os, HBW.out.tape, HBW.out.output, HBW.out.size, fun k hk _ => HBW.out.block k hk⟩ g1)
  have HBB : Hid (B ≤ w1.heap.size) := hid (by omega)
  have key : Hid (∀ W3 : World, Below w.heap.size w1 W3 → Rd W3 B rb ∧ w.grownBy W3 (some rb)) := hid (fun W3 hb => by
    have hg := HG1.out
    exact ⟨HR1.out.below (hb.mono hB), hb.os.trans hg.os, hb.tape.trans hg.tape, hb.output.trans hg.output, Nat.le_trans hg.size hb.size, fun j hj hne => (hb.block j hj).trans (hg.block j hj hne)⟩)
  clear r1 g1 cb fb k0 k1 f0 f1 HR HBW
  obtain ⟨r, hr⟩ : ∃ r : Nat, (k : Int) % 4 = (r : Int) := ⟨k % 4, by omega⟩
  obtain ⟨q, hq⟩ : ∃ q : Nat, (k : Int) / 4 % 12 = (q : Int) := ⟨k / 4 % 12, by omega⟩
  obtain ⟨s, hs⟩ : ∃ s : Nat, s = 1 + q := ⟨_, rfl⟩
  obtain ⟨s', hs'⟩ : ∃ s' : Nat, 1000000000 - (r : Int) = (s' : Int) := ⟨1000000000 - r, by omega⟩
  have ws : IntKind.i64.wrap (1 + (q : Int)) = (s : Int) := by rw [IntKind.wrap_i64]; omega
  have ws' : IntKind.i64.wrap (1000000000 - (r : Int)) = (s' : Int) := by rw [IntKind.wrap_i64]; omega
  have fin : ∀ (x y : Value) (o : Obj), Hid (Below w.heap.size w1 (((w1.setCell ⟨w.heap.size, 0, none⟩ x).setCell ⟨w.heap.size, 1, none⟩ y).alloc o) ∧ (((w1.setCell ⟨w.heap.size, 0, none⟩ x).setCell ⟨w.heap.size, 1, none⟩ y).alloc o).cell? ⟨w.heap.size, 0, none⟩ = some x ∧ (((w1.setCell ⟨w.heap.size, 0, none⟩ x).setCell ⟨w.heap.size, 1, none⟩ y).alloc o).cell? ⟨w.heap.size, 1, none⟩ = some y) := fun x y o => hid (by
    have hs : ((w1.setCell ⟨w.heap.size, 0, none⟩ x).setCell ⟨w.heap.size, 1, none⟩ y).heap.size = w1.heap.size := by simp [World.setCell]
    have b1 : Below w.heap.size w1 ((w1.setCell ⟨w.heap.size, 0, none⟩ x).setCell ⟨w.heap.size, 1, none⟩ y) := ((Below.refl _ _).setCell (p := ⟨w.heap.size, 0, none⟩) (Nat.le_refl _) _).setCell (p := ⟨w.heap.size, 1, none⟩) (Nat.le_refl _) _
    have b2 := (Below.refl w1.heap.size ((w1.setCell ⟨w.heap.size, 0, none⟩ x).setCell ⟨w.heap.size, 1, none⟩ y)).alloc (by rw [hs]; exact Nat.le_refl _) o
    have q := set2 m0 m1 x y
    exact ⟨b1.alloc (by rw [hs]; omega) o, (b2.cell (p := ⟨w.heap.size, 0, none⟩) zz).trans q.1, (b2.cell (p := ⟨w.heap.size, 1, none⟩) zz).trans q.2⟩)
  by_cases h240 : 240 ≤ k
  · have d1 : decide ((240 : Int) ≤ (k : Int)) = true := by simp; omega
    by_cases h252 : 252 ≤ k
    · have d2 : decide ((252 : Int) ≤ (k : Int)) = true := by simp; omega
      go_wp2_with fail
      obtain ⟨fb, k0, k1⟩ := (fin (.int .i64 7) (.int .i64 (s' : Int)) (.cells #[.int .i64 7, .int .i64 (s' : Int)] 34)).out
      refine bodyPost_ret (v := .agg #[.int .i64 7, .int .i64 (s' : Int)]) (by simp [results, Tryz.results44, go_sem, k0, k1]) rfl ?_
      exact ⟨7, s', rfl, by omega, by omega, by omega, key.out _ fb⟩
    · have d2 : decide ((252 : Int) ≤ (k : Int)) = false := by simp; omega
      go_wp2_with fail
      obtain ⟨fb, k0, k1⟩ := (fin (.int .i64 (r : Int)) (.int .i64 (s' : Int)) (.cells #[.int .i64 (r : Int), .int .i64 (s' : Int)] 34)).out
      refine bodyPost_ret (v := .agg #[.int .i64 (r : Int), .int .i64 (s' : Int)]) (by simp [results, Tryz.results44, go_sem, k0, k1]) rfl ?_
      exact ⟨r, s', rfl, by omega, by omega, by omega, key.out _ fb⟩
  · have d1 : decide ((240 : Int) ≤ (k : Int)) = false := by simp; omega
    have d2 : decide ((252 : Int) ≤ (k : Int)) = false := by simp; omega
    go_wp2_with fail
    obtain ⟨fb, k0, k1⟩ := (fin (.int .i64 (r : Int)) (.int .i64 (1 + (q : Int))) (.cells #[.int .i64 (r : Int), .int .i64 (1 + (q : Int))] 34)).out
    refine bodyPost_ret (v := .agg #[.int .i64 (r : Int), .int .i64 (1 + (q : Int))]) (by simp [results, Tryz.results44, go_sem, k0, k1]) rfl ?_
    exact ⟨r, s, by rw [show (1 + (q : Int)) = (s : Int) by omega], by omega, by omega, by omega, key.out _ fb⟩
end Go.Proofs.YtbimcammjohaoadGreatDoor
