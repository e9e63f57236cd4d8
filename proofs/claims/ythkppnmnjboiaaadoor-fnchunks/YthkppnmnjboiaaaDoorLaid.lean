import Derived.Test.YthkppnmnjboiaaaDoorGi
import Derived.Test.YthkppnmnjboiaaaDoorCards
import Derived.Test.YthkppnmnjboiaaaDoorTie
import Derived.ChangeVars
import Derived.Stop.LaidTwo
import Derived.LaidHandle
import Derived.Deep.DeepHandedRow
import Derived.SevenTiedAt
namespace Go.Proofs.YthkppnmnjboiaaaDoor
open Go.ChangeShapes Go.WideShapes Go.ChangeAt Go.RowKit
set_option linter.unusedVariables false
set_option linter.unusedSimpArgs false

theorem La.own : ownKnob Tryd.prog.godebug = none := by kernel_rfl
theorem La.laidOut : laidOutB Tryd.prog = true := by kernel_rfl
theorem La.gT : Tryd.prog.globalNamed "loop.example/s02772/impl.errTenth" = some 1 := by kernel_rfl
theorem La.gS : Tryd.prog.globalNamed "loop.example/s02772/impl.errShorter" = some 2 := by kernel_rfl
theorem La.gE : Tryd.prog.globalNamed "loop.example/s02772/impl.errEnds" = some 0 := by kernel_rfl
theorem La.tT : (Tryd.prog.globals[1]?).map (·.type) = some 71 := by kernel_rfl
theorem La.tS : (Tryd.prog.globals[2]?).map (·.type) = some 71 := by kernel_rfl
theorem La.tE : (Tryd.prog.globals[0]?).map (·.type) = some 71 := by kernel_rfl
theorem La.cellsS : Tryd.prog.cellsOf 127 = 1 := by kernel_rfl
theorem La.cells9 : Tryd.prog.cellsOf 9 = 1 := by kernel_rfl
theorem La.star : "*" ++ "errors.errorString" = "*errors.errorString" := by decide
theorem La.row (u : TypeId) (h : Tryd.prog.typeName? 3 u = some "*errors.errorString") : u = 103 :=
  typeName_ptr_named (nm := "errors.errorString") (by rw [La.star]; kernel_rfl) (by kernel_rfl) (by decide) u (by rw [La.star]; exact h)

theorem laidMet_skip {P : Program} {x y : String × DataW Unit} {r : List (String × DataW Unit)} {w : World} (h : laidMet P (x :: y :: r) w) : laidMet P (x :: r) w := by
  obtain ⟨ps, hv, hnd, hrows⟩ := h
  obtain ⟨n, d⟩ := x
  obtain ⟨n', d'⟩ := y
  obtain ⟨g, t, cs, fuel, p, q, h1, h2, h3, h4, hq, rfl⟩ := hv
  obtain ⟨g', t', cs', fuel', p', q', _, _, _, _, hq', rfl⟩ := hq
  refine ⟨_ ++ q', ⟨g, t, cs, fuel, p, q', h1, h2, h3, h4, hq', rfl⟩, List.Nodup.sublist ?_ hnd, fun b off hm => hrows b off ?_⟩
  · exact (List.sublist_append_right _ q').append_left _
  · rcases List.mem_append.1 hm with h | h
    · exact List.mem_append_left _ h
    · exact List.mem_append_right _ (List.mem_append_right _ h)

theorem iface_inj {tp : TypeId} {a b : Addr} {o : Option (Array Value)} (h1 : o = some #[.iface tp (.pointer (some a))]) (h2 : o = some #[.iface tp (.pointer (some b))]) : a = b := by
  rw [h1] at h2; simpa using h2

theorem errs_of_laid3 {W : World} (h : laidMetH Tryd.prog [("loop.example/s02772/impl.errEnds", Rows.laid_loop_example_s02772_impl_errEnds), ("loop.example/s02772/impl.errTenth", Rows.laid_loop_example_s02772_impl_errTenth), ("loop.example/s02772/impl.errShorter", Rows.laid_loop_example_s02772_impl_errShorter)] W) :
    ∃ aT aS aE, Errs W W.heap.size aT aS aE aE ∧ W.var? Tryd.prog "loop.example/s02772/impl.errEnds" = some #[.iface 103 (.pointer (some aE))] ∧ W.var? Tryd.prog "loop.example/s02772/impl.errTenth" = some #[.iface 103 (.pointer (some aT))] ∧ W.var? Tryd.prog "loop.example/s02772/impl.errShorter" = some #[.iface 103 (.pointer (some aS))] := by
  have hm : laidMet Tryd.prog [("loop.example/s02772/impl.errEnds", Rows.laid_loop_example_s02772_impl_errEnds), ("loop.example/s02772/impl.errTenth", Rows.laid_loop_example_s02772_impl_errTenth), ("loop.example/s02772/impl.errShorter", Rows.laid_loop_example_s02772_impl_errShorter)] W := h
  obtain ⟨aE, aT, _, _, cE, cT, tE, tT, vE, vT, _, _, _, _, _, _, nET, bE, bT⟩ := laid_sentinels2 hm La.gE La.tE La.gT La.tT Tryd.underlying71 La.row Tryd.underlying103 Tryd.underlying127 rfl rfl Tryd.underlying9 La.cellsS La.cells9
  obtain ⟨aE1, aS, _, _, _, cS, _, tS, vE1, vS, _, _, _, _, _, _, nES, _, bS⟩ := laid_sentinels2 (laidMet_skip hm) La.gE La.tE La.gS La.tS Tryd.underlying71 La.row Tryd.underlying103 Tryd.underlying127 rfl rfl Tryd.underlying9 La.cellsS La.cells9
  obtain ⟨aT1, aS1, _, _, _, _, _, _, vT1, vS1, _, _, _, _, _, _, nTS, _, _⟩ := laid_sentinels2 hm.tail La.gT La.tT La.gS La.tS Tryd.underlying71 La.row Tryd.underlying103 Tryd.underlying127 rfl rfl Tryd.underlying9 La.cellsS La.cells9
  obtain rfl := iface_inj vE vE1
  obtain rfl := iface_inj vT vT1
  obtain rfl := iface_inj vS vS1
  have lt : ∀ {a : Addr} {c : Array Value} {t : TypeId}, W.heap[a.block]? = some (.cells c t (0, 0)) → a.block < W.heap.size := fun {a c t} hb => by
    rcases Nat.lt_or_ge a.block W.heap.size with h1 | h1
    · exact h1
    · rw [Array.getElem?_eq_none h1] at hb; cases hb
  have lc : ∀ {g : Nat} {v : Value}, W.cell? ⟨g, 0, none⟩ = some v → g < W.heap.size := fun {g v} hc => by
    rcases Nat.lt_or_ge g W.heap.size with h1 | h1
    · exact h1
    · simp [World.cell?, Array.getElem?_eq_none h1] at hc
  have l1 : 0 < W.heap.size := lc (by simpa using World.var?_cell La.gE vE 0)
  have l2 : 1 < W.heap.size := lc (by simpa using World.var?_cell La.gT vT 0)
  have l3 : 2 < W.heap.size := lc (by simpa using World.var?_cell La.gS vS 0)
  have lg : 3 ≤ W.heap.size := by omega
  exact ⟨aT, aS, aE, { gT := by simpa using World.var?_cell La.gT vT 0
                       gS := by simpa using World.var?_cell La.gS vS 0
                       gE := by simpa using World.var?_cell La.gE vE 0
                       nTS := nTS, nTE := nET.symm, nSE := nES.symm
                       bT := ⟨_, _, bT⟩, bS := ⟨_, _, bS⟩, bE := ⟨_, _, bE⟩
                       lG := lg, lT := lt bT, lS := lt bS, lE := lt bE }, vE, vT, vS⟩
theorem vars_read3 {H : Type} (enc : TypeId × Value → H) {P : Program} {W : World} {n0 n1 n2 : String} {g0 g1 g2 : Nat} {t : TypeId} {ms : Array (String × TypeId)} {x0 x1 x2 : Value} (hi : P.underlying t = some (.interface ms))
    (hg0 : P.globalNamed n0 = some g0) (ht0 : (P.globals[g0]?).map (·.type) = some t) (h0 : W.var? P n0 = some #[x0]) (i0 : IsIface x0)
    (hg1 : P.globalNamed n1 = some g1) (ht1 : (P.globals[g1]?).map (·.type) = some t) (h1 : W.var? P n1 = some #[x1]) (i1 : IsIface x1)
    (hg2 : P.globalNamed n2 = some g2) (ht2 : (P.globals[g2]?).map (·.type) = some t) (h2 : W.var? P n2 = some #[x2]) (i2 : IsIface x2) (sp : Nat → Bool) :
    DataW.TrodVars enc P W sp [n0, n1, n2] [tok enc x0, tok enc x1, tok enc x2] [.cell g0 0, .cell g1 0, .cell g2 0] :=
  ⟨g0, t, #[x0], 1, [], [.cell g1 0, .cell g2 0], hg0, ht0, h0, trod_held hi i0 0, ⟨g1, t, #[x1], 1, [], [.cell g2 0], hg1, ht1, h1, trod_held hi i1 0, ⟨g2, t, #[x2], 1, [], [], hg2, ht2, h2, trod_held hi i2 0, rfl, rfl⟩, rfl⟩, rfl⟩

theorem var?_below {P : Program} {W W' : World} {n : String} {cs : Array Value} (h : W.var? P n = some cs) (hb : Below W.heap.size W W') : W'.var? P n = some cs := by
  unfold World.var? at h ⊢
  cases hg : P.globalNamed n with
  | none => simp [hg] at h
  | some g =>
    simp only [hg, Option.bind_some] at h ⊢
    have hlt : g < W.heap.size := by
      rcases Nat.lt_or_ge g W.heap.size with h' | h'
      · exact h'
      · simp [Array.getElem?_eq_none h'] at h
    rw [hb.block g hlt]; exact h

theorem vars_read4 {H : Type} (enc : TypeId × Value → H) {P : Program} {W : World} {n0 n1 n2 n3 : String} {g0 g1 g2 g3 : Nat} {t : TypeId} {ms : Array (String × TypeId)} {x0 x1 x2 x3 : Value} (hi : P.underlying t = some (.interface ms))
    (hg0 : P.globalNamed n0 = some g0) (ht0 : (P.globals[g0]?).map (·.type) = some t) (h0 : W.var? P n0 = some #[x0]) (i0 : IsIface x0)
    (hg1 : P.globalNamed n1 = some g1) (ht1 : (P.globals[g1]?).map (·.type) = some t) (h1 : W.var? P n1 = some #[x1]) (i1 : IsIface x1)
    (hg2 : P.globalNamed n2 = some g2) (ht2 : (P.globals[g2]?).map (·.type) = some t) (h2 : W.var? P n2 = some #[x2]) (i2 : IsIface x2)
    (hg3 : P.globalNamed n3 = some g3) (ht3 : (P.globals[g3]?).map (·.type) = some t) (h3 : W.var? P n3 = some #[x3]) (i3 : IsIface x3) (sp : Nat → Bool) :
    DataW.TrodVars enc P W sp [n0, n1, n2, n3] [tok enc x0, tok enc x1, tok enc x2, tok enc x3] [.cell g0 0, .cell g1 0, .cell g2 0, .cell g3 0] :=
  ⟨g0, t, #[x0], 1, [], [.cell g1 0, .cell g2 0, .cell g3 0], hg0, ht0, h0, trod_held hi i0 0, ⟨g1, t, #[x1], 1, [], [.cell g2 0, .cell g3 0], hg1, ht1, h1, trod_held hi i1 0, ⟨g2, t, #[x2], 1, [], [.cell g3 0], hg2, ht2, h2, trod_held hi i2 0, ⟨g3, t, #[x3], 1, [], [], hg3, ht3, h3, trod_held hi i3 0, rfl, rfl⟩, rfl⟩, rfl⟩, rfl⟩

theorem vars_read6 {H : Type} (enc : TypeId × Value → H) {P : Program} {W : World} {n0 n1 n2 n3 n4 n5 : String} {g0 g1 g2 g3 g4 g5 : Nat} {t : TypeId} {ms : Array (String × TypeId)} {x0 x1 x2 x3 x4 x5 : Value} (hi : P.underlying t = some (.interface ms))
    (hg0 : P.globalNamed n0 = some g0) (ht0 : (P.globals[g0]?).map (·.type) = some t) (h0 : W.var? P n0 = some #[x0]) (i0 : IsIface x0)
    (hg1 : P.globalNamed n1 = some g1) (ht1 : (P.globals[g1]?).map (·.type) = some t) (h1 : W.var? P n1 = some #[x1]) (i1 : IsIface x1)
    (hg2 : P.globalNamed n2 = some g2) (ht2 : (P.globals[g2]?).map (·.type) = some t) (h2 : W.var? P n2 = some #[x2]) (i2 : IsIface x2)
    (hg3 : P.globalNamed n3 = some g3) (ht3 : (P.globals[g3]?).map (·.type) = some t) (h3 : W.var? P n3 = some #[x3]) (i3 : IsIface x3)
    (hg4 : P.globalNamed n4 = some g4) (ht4 : (P.globals[g4]?).map (·.type) = some t) (h4 : W.var? P n4 = some #[x4]) (i4 : IsIface x4)
    (hg5 : P.globalNamed n5 = some g5) (ht5 : (P.globals[g5]?).map (·.type) = some t) (h5 : W.var? P n5 = some #[x5]) (i5 : IsIface x5)
    (sp : Nat → Bool) :
    DataW.TrodVars enc P W sp [n0, n1, n2, n3, n4, n5] [tok enc x0, tok enc x1, tok enc x2, tok enc x3, tok enc x4, tok enc x5] [.cell g0 0, .cell g1 0, .cell g2 0, .cell g3 0, .cell g4 0, .cell g5 0] :=
  ⟨g0, t, #[x0], 1, [], [.cell g1 0, .cell g2 0, .cell g3 0, .cell g4 0, .cell g5 0], hg0, ht0, h0, trod_held hi i0 0, ⟨g1, t, #[x1], 1, [], [.cell g2 0, .cell g3 0, .cell g4 0, .cell g5 0], hg1, ht1, h1, trod_held hi i1 0, ⟨g2, t, #[x2], 1, [], [.cell g3 0, .cell g4 0, .cell g5 0], hg2, ht2, h2, trod_held hi i2 0, ⟨g3, t, #[x3], 1, [], [.cell g4 0, .cell g5 0], hg3, ht3, h3, trod_held hi i3 0, ⟨g4, t, #[x4], 1, [], [.cell g5 0], hg4, ht4, h4, trod_held hi i4 0, ⟨g5, t, #[x5], 1, [], [], hg5, ht5, h5, trod_held hi i5 0, rfl, rfl⟩, rfl⟩, rfl⟩, rfl⟩, rfl⟩, rfl⟩

set_option maxRecDepth 100000 in
theorem openBytesC {H : Type} {enc : TypeId × Value → H} {W : World} {r : Reach} {b0 base : Nat} {held : Bool} {v : Value} {d : DataW H} {p : List MemPlace}
    (hval : Value.okWide Tryd.prog W r b0 22 v) (h : DataW.Trod enc Tryd.prog W base (fun _ => true) held 22 v d p) :
    ∃ a n c f, v = .slice a n c ∧ n ≤ 9223372036854775807 ∧ Seg W a n f ∧ Byt f ∧ n ≤ c := by
  obtain ⟨a0, len0, cap0, rfl⟩ := okWide_slice Tryd.underlying22 hval
  obtain ⟨z0, w0⟩ : ∃ z0 : List Int, (a0 = none ∧ len0 = 0 ∧ cap0 = 0 ∧ z0 = []) ∨ ∃ x, a0 = some x ∧ len0 ≤ cap0 ∧ cap0 ≤ maxLen ∧ z0.length = cap0 ∧ (∀ i, i < z0.length → W.cell? (x.add i) = some (.int .u8 (z0.getD i 0))) ∧ ∀ n ∈ z0, (Lit.int .u8 n).wf = true := by
    obtain ⟨fuel, hf⟩ := h
    rcases open_ints Tryd.underlying22 Tryd.underlying5 (by kernel_rfl) hf with ⟨hcs, _⟩ | ⟨x, l, c, zs, hcs, _, hl, hm, hz, _, hcell, hwz⟩
    · simp [Value.cells] at hcs
      obtain ⟨rfl, rfl, rfl⟩ := hcs
      exact ⟨[], .inl ⟨rfl, rfl, rfl, rfl⟩⟩
    · simp [Value.cells] at hcs
      obtain ⟨rfl, rfl, rfl⟩ := hcs
      exact ⟨zs, .inr ⟨_, rfl, hl, hm, by first | exact hz | simpa using hz | omega, hcell, hwz⟩⟩
  obtain ⟨s, hb, hl⟩ := seg_of w0
  exact ⟨a0, len0, cap0, _, rfl, hl, s, hb, by rcases w0 with ⟨_, h1, h2, _⟩ | ⟨_, _, h1, _⟩ <;> omega⟩
set_option maxRecDepth 100000 in
theorem openBytes {H : Type} {enc : TypeId × Value → H} {W : World} {r : Reach} {b0 base : Nat} {held : Bool} {v : Value} {d : DataW H} {p : List MemPlace}
    (hval : Value.okWide Tryd.prog W r b0 22 v) (h : DataW.Trod enc Tryd.prog W base (fun _ => true) held 22 v d p) :
    ∃ a n c f, v = .slice a n c ∧ n ≤ 9223372036854775807 ∧ Seg W a n f ∧ Byt f := by
  obtain ⟨a, n, c, f, h1, h2, h3, h4, _⟩ := openBytesC hval h
  exact ⟨a, n, c, f, h1, h2, h3, h4⟩
end Go.Proofs.YthkppnmnjboiaaaDoor
