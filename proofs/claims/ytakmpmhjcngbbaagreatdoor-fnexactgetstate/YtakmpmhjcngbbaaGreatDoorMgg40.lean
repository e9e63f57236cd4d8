import Derived.Test.YtakmpmhjcngbbaaGreatDoorMgg38
import Derived.Test.YtakmpmhjcngbbaaGreatDoorMgg39
import Derived.Test.YtakmpmhjcngbbaaGreatDoorMgg03
import Derived.Test.YtakmpmhjcngbbaaGreatDoorCards
import Derived.Test.YtakmpmhjcngbbaaGreatDoorTie
import Derived.ChangeVars
import Derived.Stop.LaidTwo
import Derived.LaidHandle
import Derived.Deep.DeepHandedRow
import Derived.SevenTiedAt
import Derived.Test.YtakmpmhjcngbbaaGreatDoorMgg01
set_option linter.unusedVariables false
set_option linter.unusedSimpArgs false
set_option maxRecDepth 100000
set_option maxHeartbeats 40000000
namespace Go.Proofs.YtakmpmhjcngbbaaGreatDoor
open Go.ChangeShapes Go.WideShapes Go.ChangeAt Go.RowKit Go.Deep
theorem gsR_st {f : Nat → Int} (hf : Byt f) {n : Nat} {g : List (Int × List (Int × Int))} {J : List Lf} (h : gsR f n = some (g, J)) : StOk (lR (flatG g)) (lF (flatG g)) (lT (flatG g)) (flatG g).length J := by
  unfold gsR at h
  by_cases h4 : 4000 < n
  · rw [if_pos h4] at h; cases h
  · rw [if_neg h4] at h
    obtain ⟨a, ha, h⟩ := bind_some_iff.1 h
    obtain ⟨b, hb, h⟩ := bind_some_iff.1 h
    split at h
    · cases h
    · simp only [Option.some.injEq, Prod.mk.injEq] at h
      obtain ⟨rfl, rfl⟩ := h
      obtain ⟨g, x1⟩ := a
      obtain ⟨J, x'⟩ := b
      simp only at hb ⊢
      rw [show ((0 : Int)) = ((0 : Nat) : Int) from rfl, rdC_nat] at ha
      obtain ⟨hok, hA, hx1, hx1n⟩ := (rdCtx_iff hf (Nat.zero_le _)).1 ha
      obtain ⟨c1, c2, c3, c4⟩ := groups_ctx hok
      rw [grp_K hok] at hb
      obtain ⟨⟨v1, v2, v3⟩, _⟩ := (strict_iff hf (ctx_K c1)).1 ⟨hb, hx1n⟩
      exact ⟨c1, v3, v1, v2⟩
def ImP (f : Nat → Int) (n : Nat) (w : World) (e : Ending) (w' : World) : Prop := Below w.heap.size w w' ∧
  ((∃ (g : List (Int × List (Int × Int))) (l : List Lf) (va : Option Addr) (vc : Nat) (xa : Option Addr) (xc : Nat), gsR f n = some (g, l) ∧ e = .returned (.tuple #[.agg #[.slice va l.length vc, .slice xa (flatG g).length xc], .int .i64 0]) ∧ LB w' (w.heap.size + 1) (.slice va l.length vc) l ∧ FR w' (w.heap.size + 1) (.slice xa (flatG g).length xc) (flatG g)) ∨
   (gsR f n = none ∧ e = .returned (.tuple #[.agg #[.slice none 0 0, .slice none 0 0], .int .i64 1])))
theorem implGetS (B : Nat) (a : Option Addr) (n c : Nat) (f : Nat → Int) (aT aS aL aE : Addr) (w : World) (hn : n ≤ 1048576) (hnc : n ≤ c) (hcc : c ≤ 4611686018427387904) (hf : Byt f) (hs : Seg w a n f) (hE : Errs w B aT aS aL aE) (hB : B ≤ w.heap.size) (hab : ∀ y, a = some y → y.block < w.heap.size) :
    Calls Tryz.prog 6 #[.slice a n c] w fun e w' => ImP f n w e w' := by
  obtain ⟨P, hP⟩ : ∃ P, ImP f n w = P := ⟨_, rfl⟩
  rw [hP]
  have HP := hid hP
  clear hP
  obtain ⟨W, hW⟩ : ∃ W, w.alloc (.cells #[.slice none 0 0, .slice none 0 0] 28) = W := ⟨_, rfl⟩
  have bW : Below w.heap.size w W := by rw [← hW]; exact (Below.refl _ _).alloc (Nat.le_refl _) _
  have zW : W.heap.size = w.heap.size + 1 := by rw [← hW]; simp
  have HX : Hid (Bx2 W w.heap.size (.slice none 0 0) (.slice none 0 0)) := hid (by rw [← hW]; exact Bx2.made w _ _ _)
  have HRd := hid (readStateC B a n c f aT aS aL aE W hn hnc hcc hf (hs.below bW) (hE.below (bW.mono hB)) (by omega) (fun y hy => by have := hab y hy; omega))
  have HBW := hid bW
  have HZW := hid zW
  have HF := hid hf
  clear bW zW hs hE hab hf
  go_enter Tryz.func6, Tryz.ntmps6
  go_wp2_with fail
  try rw [hW]
  clear hW
  refine HRd.out.mono ?_
  clear HRd
  rintro e w1 ⟨b1, ⟨g, J, z0, bd, hr, rfl, hlv, hok⟩ | ⟨hr, t, v, rfl⟩⟩
  · obtain ⟨s1, s2⟩ := z0
    obtain ⟨W2, hW2⟩ : ∃ W2, w1.alloc (.cells #[.map (some s1), .map (some s2), .map (some bd)] 51) = W2 := ⟨_, rfl⟩
    have b2 : Below w1.heap.size w1 W2 := by rw [← hW2]; exact (Below.refl _ _).alloc (Nat.le_refl _) _
    have X2 : Bx3 W2 w1.heap.size (.map (some s1)) (.map (some s2)) (.map (some bd)) := by rw [← hW2]; exact Bx3.made _ _ _ _ _
    have b12 := keepS b1 b2
    have hst := gsR_st HF.out hr
    have HSt := hid (stateC W2 (hlv.below b2) hst.2.2.1 hst.lvB)
    have x0 := X2.c0
    have x1 := X2.c1
    have x2 := X2.c2
    have HX2 := hid (HX.out.below b12 HX.out.lt)
    have HB2 := hid (HBW.out.trans (b12.mono HBW.out.size))
    have HR := hid hr
    have hz2 : w.heap.size + 1 ≤ W2.heap.size := by have := HZW.out; have := b12.size; omega
    clear b1 b2 b12 X2 hr hlv hok hst
    go_wp2_with fail
    try rw [hW2]
    clear hW2
    refine HSt.out.mono ?_
    clear HSt
    rintro e w3 ⟨⟨va, vc, xa, xc, rfl, hLB, hFR, hz3⟩, b3⟩
    have X3 := HX2.out.below b3 HX2.out.lt
    have c0 := X3.c0
    have c1 := X3.c1
    have cf := X3.f
    have HX3 := hid X3
    have HL := hid hLB
    have HFr := hid hFR
    have HB3 := hid (HB2.out.trans (b3.mono HB2.out.size))
    clear X3 hLB hFR b3 x0 x1 x2
    go_wp2_with fail
    obtain ⟨Z, hZ, p0, p1, gZ⟩ := HX3.out.fill (.slice va J.length vc) (.slice xa (flatG g).length xc)
    rw [← hZ]
    clear hZ
    refine bodyPost_ret (v := .tuple #[.agg #[.slice va J.length vc, .slice xa (flatG g).length xc], .int .i64 0]) (by simp [results, Tryz.results6, go_sem, p0, p1]) rfl ?_
    rw [← HP.out]
    refine ⟨HB3.out.grown gZ HB3.out.size (fun k e => by injection e with e; omega), .inl ⟨g, J, va, vc, xa, xc, HR.out, rfl, (HL.out.move gZ.size (fun q h1 h2 => gZ.block q h2 (fun e => by injection e with e; omega))).low (by omega), FR.weak (own_at5 HFr.out (fun k hk => ?_)) (by omega)⟩⟩
    have hg' := World.ownsRow.lt HFr.out k hk
    exact gZ.block k hg'.2 (fun e => by injection e with e; omega)
  · have b2 : Below w1.heap.size w1 (w1.alloc (.cells #[.map none, .map none, .map none] 51)) := (Below.refl _ _).alloc (Nat.le_refl _) _
    have b12 := keepS b1 b2
    have X2 := HX.out.below b12 HX.out.lt
    have HX2 := hid X2
    have HB2 := hid (HBW.out.trans (b12.mono HBW.out.size))
    have c0 := X2.c0
    have c1 := X2.c1
    have cf := X2.f
    have HR := hid hr
    clear b1 b2 b12 X2 hr
    go_wp2_with fail
    obtain ⟨Z, hZ, p0, p1, gZ⟩ := HX2.out.fill (.slice none 0 0) (.slice none 0 0)
    rw [← hZ]
    clear hZ
    refine bodyPost_ret (v := .tuple #[.agg #[.slice none 0 0, .slice none 0 0], .int .i64 1]) (by simp [results, Tryz.results6, go_sem, p0, p1]) rfl ?_
    rw [← HP.out]
    exact ⟨HB2.out.grown gZ HB2.out.size (fun k e => by injection e with e; omega), .inr ⟨HR.out, rfl⟩⟩
noncomputable def gsX (f : Nat → Int) (n : Nat) : Sx := match gsS f n with
  | none => ⟨[], 0, fun _ => 0, fun _ => 0, fun _ => 0⟩
  | some r => ⟨r.2, r.1.length, lR r.1, lF r.1, lT r.1⟩
noncomputable def gsK (f : Nat → Int) (n : Nat) : Int := match gsS f n with
  | none => 1
  | some _ => 0
theorem gsX_sm {f : Nat → Int} (hf : Byt f) (n : Nat) : (gsX f n).Sm := by
  unfold gsX
  cases h : gsS f n with
  | none => exact ⟨by simp, fun i => by simp [gL, List.getD], by simp⟩
  | some r =>
    rw [gs_eq hf] at h
    cases h2 : gsR f n with
    | none => rw [h2] at h; cases h
    | some q =>
      rw [h2] at h
      simp only [Option.map_some, Option.some.injEq] at h
      subst h
      have hst := gsR_st hf (g := q.1) (J := q.2) h2
      have hb := ctxB_iff.1 hst.1
      refine ⟨by have := hst.2.1; show q.2.length ≤ 1048576; omega, fun i => ?_, by have := hb.2; show (flatG q.1).length ≤ 1048576; omega⟩
      by_cases hi : i < q.2.length
      · have := (hst.2.2.1 i hi).1.1.2.1
        show (gL q.2 i).p.length ≤ 1048576
        omega
      · have e : gL q.2 i = gL [] 0 := by simp [gL, List.getD, List.getElem?_eq_none (Nat.le_of_not_lt hi)]
        show (gL q.2 i).p.length ≤ 1048576
        rw [e]
        simp [gL, List.getD]
theorem specAns (a : Option Addr) (n c : Nat) (f : Nat → Int) (w : World) (hn : n ≤ 1048576) (hnc : n ≤ c) (hf : Byt f) (hs : Seg w a n f) (hab : ∀ y, a = some y → y.block < w.heap.size) :
    Calls Tryz.prog 4 #[.slice a n c] w fun e w' => Below w.heap.size w w' ∧ ∃ va vc xa xc, e = .returned (.tuple #[.agg #[.slice va (gsX f n).l.length vc, .slice xa (gsX f n).n xc], .int .i64 (gsK f n)]) ∧ SOw w' w.heap.size w'.heap.size va xa xc (gsX f n) := by
  refine (specGetS a n c f w hn hnc hf hs hab).mono ?_
  rintro e w1 ⟨b, ⟨rl, l, va, vc, xa, xc, hr, rfl, hL, hF, _⟩ | ⟨hr, rfl⟩⟩
  · unfold gsX gsK
    rw [hr]
    refine ⟨b, va, vc, xa, xc, rfl, ?_⟩
    have hb : w.heap.size + 1 ≤ w1.heap.size ∨ w1.heap.size < w.heap.size + 1 := by omega
    have hlo : w.heap.size ≤ w1.heap.size := b.size
    exact SOw.of (S := ⟨l, rl.length, lR rl, lF rl, lT rl⟩) (hL.low (Nat.le_succ _)) (FR.weak hF (Nat.le_succ _)) rfl rfl rfl rfl hlo
  · unfold gsX gsK
    rw [hr]
    exact ⟨b, none, 0, none, 0, rfl, SOw.mt w1 _ rfl rfl _ _ ⟨b.size, Nat.le_refl _⟩ _ _ _⟩
theorem implAns (B : Nat) (a : Option Addr) (n c : Nat) (f : Nat → Int) (aT aS aL aE : Addr) (w : World) (hn : n ≤ 1048576) (hnc : n ≤ c) (hcc : c ≤ 4611686018427387904) (hf : Byt f) (hs : Seg w a n f) (hE : Errs w B aT aS aL aE) (hB : B ≤ w.heap.size) (hab : ∀ y, a = some y → y.block < w.heap.size) :
    Calls Tryz.prog 6 #[.slice a n c] w fun e w' => Below w.heap.size w w' ∧ ∃ va vc xa xc, e = .returned (.tuple #[.agg #[.slice va (gsX f n).l.length vc, .slice xa (gsX f n).n xc], .int .i64 (gsK f n)]) ∧ SOw w' w.heap.size w'.heap.size va xa xc (gsX f n) := by
  refine (implGetS B a n c f aT aS aL aE w hn hnc hcc hf hs hE hB hab).mono ?_
  rintro e w1 ⟨b, ⟨g, l, va, vc, xa, xc, hr, rfl, hL, hF⟩ | ⟨hr, rfl⟩⟩
  · have hS : gsS f n = some (flatG g, l) := by rw [gs_eq hf, hr]; rfl
    unfold gsX gsK
    rw [hS]
    exact ⟨b, va, vc, xa, xc, rfl, SOw.of (S := ⟨l, (flatG g).length, lR (flatG g), lF (flatG g), lT (flatG g)⟩) (hL.low (Nat.le_succ _)) (FR.weak hF (Nat.le_succ _)) rfl rfl rfl rfl b.size⟩
  · have hS : gsS f n = none := by rw [gs_eq hf, hr]; rfl
    unfold gsX gsK
    rw [hS]
    exact ⟨b, none, 0, none, 0, rfl, SOw.mt w1 _ rfl rfl _ _ ⟨b.size, Nat.le_refl _⟩ _ _ _⟩
end Go.Proofs.YtakmpmhjcngbbaaGreatDoor
namespace Go.Proofs.YtakmpmhjcngbbaaGreatDoor
open Go.ChangeShapes Go.WideShapes Go.ChangeAt Go.RowKit
theorem La.own : ownKnob Tryz.prog.godebug = none := by kernel_rfl
theorem La.laidOut : laidOutB Tryz.prog = true := by kernel_rfl
theorem La.gT : Tryz.prog.globalNamed "loop.example/s02772/impl.errTenth" = some 11 := by kernel_rfl
theorem La.gS : Tryz.prog.globalNamed "loop.example/s02772/impl.errShorter" = some 12 := by kernel_rfl
theorem La.gE : Tryz.prog.globalNamed "loop.example/s02772/impl.errEnds" = some 10 := by kernel_rfl
theorem La.tT : (Tryz.prog.globals[11]?).map (·.type) = some 53 := by kernel_rfl
theorem La.tS : (Tryz.prog.globals[12]?).map (·.type) = some 53 := by kernel_rfl
theorem La.tE : (Tryz.prog.globals[10]?).map (·.type) = some 53 := by kernel_rfl
theorem La.cellsS : Tryz.prog.cellsOf 251 = 1 := by kernel_rfl
theorem La.cells9 : Tryz.prog.cellsOf 9 = 1 := by kernel_rfl
theorem La.star : "*" ++ "errors.errorString" = "*errors.errorString" := by decide
theorem La.row (u : TypeId) (h : Tryz.prog.typeName? 3 u = some "*errors.errorString") : u = 233 :=
  typeName_ptr_named (nm := "errors.errorString") (by rw [La.star]; kernel_rfl) (by kernel_rfl) (by decide) u (by rw [La.star]; exact h)
theorem laidMet_skip {P : Program} {x y : String × DataW Unit} {r : List (String × DataW Unit)} {w : World} (h : laidMet P (x :: y :: r) w) : laidMet P (x :: r) w := by
  obtain ⟨ps, hv, hnd, hrows⟩ := h
  obtain ⟨n, d⟩ := x
  obtain ⟨n', d'⟩ := y
  obtain ⟨g, t, cs, fuel, p, q, h1, h2, h3, h4, hq, rfl⟩ := hv
  obtain ⟨g', t', cs', fuel', p', q', _, _, _, _, hq', rfl⟩ := hq
  refine ⟨_ ++ q', ⟨g, t, cs, fuel, p, q', h1, h2, h3, h4, hq', rfl⟩, List.Nodup.sublist ?_ hnd, fun b off hm => hrows b off ?_⟩
  · exact (List.sublist_append_right _ q').append_left _
  · rcases List.mem_append.1 hm with h | h
    · exact List.mem_append_left _ h
    · exact List.mem_append_right _ (List.mem_append_right _ h)
theorem iface_inj {tp : TypeId} {a b : Addr} {o : Option (Array Value)} (h1 : o = some #[.iface tp (.pointer (some a))]) (h2 : o = some #[.iface tp (.pointer (some b))]) : a = b := by
  rw [h1] at h2; simpa using h2
theorem La.gM : Tryz.prog.globalNamed "loop.example/s02772/impl.errLimit" = some 4 := by kernel_rfl
theorem La.tM : (Tryz.prog.globals[4]?).map (·.type) = some 53 := by kernel_rfl
theorem La.gO : Tryz.prog.globalNamed "loop.example/s02772/impl.errOrder" = some 5 := by kernel_rfl
theorem La.tO : (Tryz.prog.globals[5]?).map (·.type) = some 53 := by kernel_rfl
theorem La.gN : Tryz.prog.globalNamed "loop.example/s02772/impl.errNoRuns" = some 9 := by kernel_rfl
theorem La.tN : (Tryz.prog.globals[9]?).map (·.type) = some 53 := by kernel_rfl
theorem var?_below {P : Program} {W W' : World} {n : String} {cs : Array Value} (h : W.var? P n = some cs) (hb : Below W.heap.size W W') : W'.var? P n = some cs := by
  unfold World.var? at h ⊢
  cases hg : P.globalNamed n with
  | none => simp [hg] at h
  | some g =>
    simp only [hg, Option.bind_some] at h ⊢
    have hlt : g < W.heap.size := by
      rcases Nat.lt_or_ge g W.heap.size with h' | h'
      · exact h'
      · simp [Array.getElem?_eq_none h'] at h
    rw [hb.block g hlt]; exact h
theorem openBytesC {H : Type} {enc : TypeId × Value → H} {W : World} {r : Reach} {b0 base : Nat} {held : Bool} {v : Value} {d : DataW H} {p : List MemPlace}
    (hval : Value.okWide Tryz.prog W r b0 22 v) (h : DataW.Trod enc Tryz.prog W base (fun _ => true) held 22 v d p) :
    ∃ a n c f, v = .slice a n c ∧ n ≤ 9223372036854775807 ∧ Seg W a n f ∧ Byt f ∧ n ≤ c := by
  obtain ⟨a0, len0, cap0, rfl⟩ := okWide_slice Tryz.underlying22 hval
  obtain ⟨z0, w0⟩ : ∃ z0 : List Int, (a0 = none ∧ len0 = 0 ∧ cap0 = 0 ∧ z0 = []) ∨ ∃ x, a0 = some x ∧ len0 ≤ cap0 ∧ cap0 ≤ maxLen ∧ z0.length = cap0 ∧ (∀ i, i < z0.length → W.cell? (x.add i) = some (.int .u8 (z0.getD i 0))) ∧ ∀ n ∈ z0, (Lit.int .u8 n).wf = true := by
    obtain ⟨fuel, hf⟩ := h
    rcases open_ints Tryz.underlying22 Tryz.underlying5 (by kernel_rfl) hf with ⟨hcs, _⟩ | ⟨x, l, c, zs, hcs, _, hl, hm, hz, _, hcell, hwz⟩
    · simp [Value.cells] at hcs
      obtain ⟨rfl, rfl, rfl⟩ := hcs
      exact ⟨[], .inl ⟨rfl, rfl, rfl, rfl⟩⟩
    · simp [Value.cells] at hcs
      obtain ⟨rfl, rfl, rfl⟩ := hcs
      exact ⟨zs, .inr ⟨_, rfl, hl, hm, by first | exact hz | simpa using hz | omega, hcell, hwz⟩⟩
  obtain ⟨s, hb, hl⟩ := seg_of w0
  exact ⟨a0, len0, cap0, _, rfl, hl, s, hb, by rcases w0 with ⟨_, h1, h2, _⟩ | ⟨_, _, h1, _⟩ <;> omega⟩
theorem openBytes {H : Type} {enc : TypeId × Value → H} {W : World} {r : Reach} {b0 base : Nat} {held : Bool} {v : Value} {d : DataW H} {p : List MemPlace}
    (hval : Value.okWide Tryz.prog W r b0 22 v) (h : DataW.Trod enc Tryz.prog W base (fun _ => true) held 22 v d p) :
    ∃ a n c f, v = .slice a n c ∧ n ≤ 9223372036854775807 ∧ Seg W a n f ∧ Byt f := by
  obtain ⟨a, n, c, f, h1, h2, h3, h4, _⟩ := openBytesC hval h
  exact ⟨a, n, c, f, h1, h2, h3, h4⟩
theorem La.g_x0 : Tryz.prog.globalNamed "loop.example/s02772/impl.errTooLong" = some 0 := by kernel_rfl
theorem La.t_x0 : (Tryz.prog.globals[0]?).map (·.type) = some 53 := by kernel_rfl
theorem La.g_x1 : Tryz.prog.globalNamed "loop.example/s02772/impl.errBehind" = some 1 := by kernel_rfl
theorem La.t_x1 : (Tryz.prog.globals[1]?).map (·.type) = some 53 := by kernel_rfl
theorem La.g_x2 : Tryz.prog.globalNamed "loop.example/s02772/impl.errNoName" = some 7 := by kernel_rfl
theorem La.t_x2 : (Tryz.prog.globals[7]?).map (·.type) = some 53 := by kernel_rfl
theorem La.g_x3 : Tryz.prog.globalNamed "loop.example/s02772/impl.errKind" = some 6 := by kernel_rfl
theorem La.t_x3 : (Tryz.prog.globals[6]?).map (·.type) = some 53 := by kernel_rfl
theorem La.g_x4 : Tryz.prog.globalNamed "loop.example/s02772/impl.errDeep" = some 3 := by kernel_rfl
theorem La.t_x4 : (Tryz.prog.globals[3]?).map (·.type) = some 53 := by kernel_rfl
theorem La.g_x5 : Tryz.prog.globalNamed "loop.example/s02772/impl.errNoKeys" = some 2 := by kernel_rfl
theorem La.t_x5 : (Tryz.prog.globals[2]?).map (·.type) = some 53 := by kernel_rfl
theorem La.g_x6 : Tryz.prog.globalNamed "loop.example/s02772/impl.errNoLeaves" = some 8 := by kernel_rfl
theorem La.t_x6 : (Tryz.prog.globals[8]?).map (·.type) = some 53 := by kernel_rfl
theorem La.g_x7 : Tryz.prog.globalNamed "loop.example/s02772/impl.errUnknown" = some 13 := by kernel_rfl
theorem La.t_x7 : (Tryz.prog.globals[13]?).map (·.type) = some 53 := by kernel_rfl
theorem La.g_x8 : Tryz.prog.globalNamed "loop.example/s02772/impl.errTwice" = some 14 := by kernel_rfl
theorem La.t_x8 : (Tryz.prog.globals[14]?).map (·.type) = some 53 := by kernel_rfl
theorem errs_of_laidS {W : World} (h : laidMetH Tryz.prog [("loop.example/s02772/impl.errEnds", Rows.laid_loop_example_s02772_impl_errEnds), ("loop.example/s02772/impl.errTenth", Rows.laid_loop_example_s02772_impl_errTenth), ("loop.example/s02772/impl.errShorter", Rows.laid_loop_example_s02772_impl_errShorter), ("loop.example/s02772/impl.errTooLong", Rows.laid_loop_example_s02772_impl_errTooLong), ("loop.example/s02772/impl.errLimit", Rows.laid_loop_example_s02772_impl_errLimit), ("loop.example/s02772/impl.errOrder", Rows.laid_loop_example_s02772_impl_errOrder), ("loop.example/s02772/impl.errNoRuns", Rows.laid_loop_example_s02772_impl_errNoRuns), ("loop.example/s02772/impl.errBehind", Rows.laid_loop_example_s02772_impl_errBehind), ("loop.example/s02772/impl.errNoName", Rows.laid_loop_example_s02772_impl_errNoName), ("loop.example/s02772/impl.errKind", Rows.laid_loop_example_s02772_impl_errKind), ("loop.example/s02772/impl.errDeep", Rows.laid_loop_example_s02772_impl_errDeep), ("loop.example/s02772/impl.errNoKeys", Rows.laid_loop_example_s02772_impl_errNoKeys), ("loop.example/s02772/impl.errNoLeaves", Rows.laid_loop_example_s02772_impl_errNoLeaves), ("loop.example/s02772/impl.errUnknown", Rows.laid_loop_example_s02772_impl_errUnknown), ("loop.example/s02772/impl.errTwice", Rows.laid_loop_example_s02772_impl_errTwice)] W) : ∃ aT aS aE, Errs W W.heap.size aT aS aE aE := by
  have hm : laidMet Tryz.prog [("loop.example/s02772/impl.errEnds", Rows.laid_loop_example_s02772_impl_errEnds), ("loop.example/s02772/impl.errTenth", Rows.laid_loop_example_s02772_impl_errTenth), ("loop.example/s02772/impl.errShorter", Rows.laid_loop_example_s02772_impl_errShorter), ("loop.example/s02772/impl.errTooLong", Rows.laid_loop_example_s02772_impl_errTooLong), ("loop.example/s02772/impl.errLimit", Rows.laid_loop_example_s02772_impl_errLimit), ("loop.example/s02772/impl.errOrder", Rows.laid_loop_example_s02772_impl_errOrder), ("loop.example/s02772/impl.errNoRuns", Rows.laid_loop_example_s02772_impl_errNoRuns), ("loop.example/s02772/impl.errBehind", Rows.laid_loop_example_s02772_impl_errBehind), ("loop.example/s02772/impl.errNoName", Rows.laid_loop_example_s02772_impl_errNoName), ("loop.example/s02772/impl.errKind", Rows.laid_loop_example_s02772_impl_errKind), ("loop.example/s02772/impl.errDeep", Rows.laid_loop_example_s02772_impl_errDeep), ("loop.example/s02772/impl.errNoKeys", Rows.laid_loop_example_s02772_impl_errNoKeys), ("loop.example/s02772/impl.errNoLeaves", Rows.laid_loop_example_s02772_impl_errNoLeaves), ("loop.example/s02772/impl.errUnknown", Rows.laid_loop_example_s02772_impl_errUnknown), ("loop.example/s02772/impl.errTwice", Rows.laid_loop_example_s02772_impl_errTwice)] W := h
  obtain ⟨aE, aT, _, _, cE, cT, tE, tT, vE, vT, _, _, _, _, _, _, nET, bE, bT⟩ := laid_sentinels2 hm La.gE La.tE La.gT La.tT Tryz.underlying53 La.row Tryz.underlying233 Tryz.underlying251 rfl rfl Tryz.underlying9 La.cellsS La.cells9
  obtain ⟨aE1, aS, _, _, _, cS, _, tS, vE1, vS, _, _, _, _, _, _, nES, _, bS⟩ := laid_sentinels2 (laidMet_skip hm) La.gE La.tE La.gS La.tS Tryz.underlying53 La.row Tryz.underlying233 Tryz.underlying251 rfl rfl Tryz.underlying9 La.cellsS La.cells9
  obtain ⟨aT1, aS1, _, _, _, _, _, _, vT1, vS1, _, _, _, _, _, _, nTS, _, _⟩ := laid_sentinels2 hm.tail La.gT La.tT La.gS La.tS Tryz.underlying53 La.row Tryz.underlying233 Tryz.underlying251 rfl rfl Tryz.underlying9 La.cellsS La.cells9
  have k2 := laidMet_skip (laidMet_skip hm)
  obtain ⟨_, a_x0, _, _, _, _, _, _, _, v_x0, _⟩ := laid_sentinels2 k2 La.gE La.tE La.g_x0 La.t_x0 Tryz.underlying53 La.row Tryz.underlying233 Tryz.underlying251 rfl rfl Tryz.underlying9 La.cellsS La.cells9
  have k3 := laidMet_skip k2
  obtain ⟨_, a_gM, _, _, _, _, _, _, _, v_gM, _⟩ := laid_sentinels2 k3 La.gE La.tE La.gM La.tM Tryz.underlying53 La.row Tryz.underlying233 Tryz.underlying251 rfl rfl Tryz.underlying9 La.cellsS La.cells9
  have k4 := laidMet_skip k3
  obtain ⟨_, a_gO, _, _, _, _, _, _, _, v_gO, _⟩ := laid_sentinels2 k4 La.gE La.tE La.gO La.tO Tryz.underlying53 La.row Tryz.underlying233 Tryz.underlying251 rfl rfl Tryz.underlying9 La.cellsS La.cells9
  have k5 := laidMet_skip k4
  obtain ⟨_, a_gN, _, _, _, _, _, _, _, v_gN, _⟩ := laid_sentinels2 k5 La.gE La.tE La.gN La.tN Tryz.underlying53 La.row Tryz.underlying233 Tryz.underlying251 rfl rfl Tryz.underlying9 La.cellsS La.cells9
  have k6 := laidMet_skip k5
  obtain ⟨_, a_x1, _, _, _, _, _, _, _, v_x1, _⟩ := laid_sentinels2 k6 La.gE La.tE La.g_x1 La.t_x1 Tryz.underlying53 La.row Tryz.underlying233 Tryz.underlying251 rfl rfl Tryz.underlying9 La.cellsS La.cells9
  have k7 := laidMet_skip k6
  obtain ⟨_, a_x2, _, _, _, _, _, _, _, v_x2, _⟩ := laid_sentinels2 k7 La.gE La.tE La.g_x2 La.t_x2 Tryz.underlying53 La.row Tryz.underlying233 Tryz.underlying251 rfl rfl Tryz.underlying9 La.cellsS La.cells9
  have k8 := laidMet_skip k7
  obtain ⟨_, a_x3, _, _, _, _, _, _, _, v_x3, _⟩ := laid_sentinels2 k8 La.gE La.tE La.g_x3 La.t_x3 Tryz.underlying53 La.row Tryz.underlying233 Tryz.underlying251 rfl rfl Tryz.underlying9 La.cellsS La.cells9
  have k9 := laidMet_skip k8
  obtain ⟨_, a_x4, _, _, _, _, _, _, _, v_x4, _⟩ := laid_sentinels2 k9 La.gE La.tE La.g_x4 La.t_x4 Tryz.underlying53 La.row Tryz.underlying233 Tryz.underlying251 rfl rfl Tryz.underlying9 La.cellsS La.cells9
  have k10 := laidMet_skip k9
  obtain ⟨_, a_x5, _, _, _, _, _, _, _, v_x5, _⟩ := laid_sentinels2 k10 La.gE La.tE La.g_x5 La.t_x5 Tryz.underlying53 La.row Tryz.underlying233 Tryz.underlying251 rfl rfl Tryz.underlying9 La.cellsS La.cells9
  have k11 := laidMet_skip k10
  obtain ⟨_, a_x6, _, _, _, _, _, _, _, v_x6, _⟩ := laid_sentinels2 k11 La.gE La.tE La.g_x6 La.t_x6 Tryz.underlying53 La.row Tryz.underlying233 Tryz.underlying251 rfl rfl Tryz.underlying9 La.cellsS La.cells9
  have k12 := laidMet_skip k11
  obtain ⟨_, a_x7, _, _, _, _, _, _, _, v_x7, _⟩ := laid_sentinels2 k12 La.gE La.tE La.g_x7 La.t_x7 Tryz.underlying53 La.row Tryz.underlying233 Tryz.underlying251 rfl rfl Tryz.underlying9 La.cellsS La.cells9
  have k13 := laidMet_skip k12
  obtain ⟨_, a_x8, _, _, _, _, _, _, _, v_x8, _⟩ := laid_sentinels2 k13 La.gE La.tE La.g_x8 La.t_x8 Tryz.underlying53 La.row Tryz.underlying233 Tryz.underlying251 rfl rfl Tryz.underlying9 La.cellsS La.cells9
  obtain rfl := iface_inj vE vE1
  obtain rfl := iface_inj vT vT1
  obtain rfl := iface_inj vS vS1
  have lt : ∀ {a : Addr} {c : Array Value} {t : TypeId}, W.heap[a.block]? = some (.cells c t (0, 0)) → a.block < W.heap.size := fun {a c t} hb => by
    rcases Nat.lt_or_ge a.block W.heap.size with h1 | h1
    · exact h1
    · rw [Array.getElem?_eq_none h1] at hb; cases hb
  have lc : ∀ {g : Nat} {v : Value}, W.cell? ⟨g, 0, none⟩ = some v → g < W.heap.size := fun {g v} hc => by
    rcases Nat.lt_or_ge g W.heap.size with h1 | h1
    · exact h1
    · simp [World.cell?, Array.getElem?_eq_none h1] at hc
  have l1 : 10 < W.heap.size := lc (by simpa using World.var?_cell La.gE vE 0)
  have l2 : 11 < W.heap.size := lc (by simpa using World.var?_cell La.gT vT 0)
  have l3 : 12 < W.heap.size := lc (by simpa using World.var?_cell La.gS vS 0)
  have l_x0 : 0 < W.heap.size := lc (by simpa using World.var?_cell La.g_x0 v_x0 0)
  have l_gM : 4 < W.heap.size := lc (by simpa using World.var?_cell La.gM v_gM 0)
  have l_gO : 5 < W.heap.size := lc (by simpa using World.var?_cell La.gO v_gO 0)
  have l_gN : 9 < W.heap.size := lc (by simpa using World.var?_cell La.gN v_gN 0)
  have l_x1 : 1 < W.heap.size := lc (by simpa using World.var?_cell La.g_x1 v_x1 0)
  have l_x2 : 7 < W.heap.size := lc (by simpa using World.var?_cell La.g_x2 v_x2 0)
  have l_x3 : 6 < W.heap.size := lc (by simpa using World.var?_cell La.g_x3 v_x3 0)
  have l_x4 : 3 < W.heap.size := lc (by simpa using World.var?_cell La.g_x4 v_x4 0)
  have l_x5 : 2 < W.heap.size := lc (by simpa using World.var?_cell La.g_x5 v_x5 0)
  have l_x6 : 8 < W.heap.size := lc (by simpa using World.var?_cell La.g_x6 v_x6 0)
  have l_x7 : 13 < W.heap.size := lc (by simpa using World.var?_cell La.g_x7 v_x7 0)
  have l_x8 : 14 < W.heap.size := lc (by simpa using World.var?_cell La.g_x8 v_x8 0)
  have lg : 15 ≤ W.heap.size := by omega
  exact ⟨aT, aS, aE, { gT := by simpa using World.var?_cell La.gT vT 0
                       gS := by simpa using World.var?_cell La.gS vS 0
                       gE := by simpa using World.var?_cell La.gE vE 0
                       nTS := nTS, nTE := nET.symm, nSE := nES.symm
                       x0 := ⟨_, by simpa using World.var?_cell La.g_x0 v_x0 0⟩
                       gM := ⟨_, by simpa using World.var?_cell La.gM v_gM 0⟩
                       gO := ⟨_, by simpa using World.var?_cell La.gO v_gO 0⟩
                       gN := ⟨_, by simpa using World.var?_cell La.gN v_gN 0⟩
                       x1 := ⟨_, by simpa using World.var?_cell La.g_x1 v_x1 0⟩
                       x2 := ⟨_, by simpa using World.var?_cell La.g_x2 v_x2 0⟩
                       x3 := ⟨_, by simpa using World.var?_cell La.g_x3 v_x3 0⟩
                       x4 := ⟨_, by simpa using World.var?_cell La.g_x4 v_x4 0⟩
                       x5 := ⟨_, by simpa using World.var?_cell La.g_x5 v_x5 0⟩
                       x6 := ⟨_, by simpa using World.var?_cell La.g_x6 v_x6 0⟩
                       x7 := ⟨_, by simpa using World.var?_cell La.g_x7 v_x7 0⟩
                       x8 := ⟨_, by simpa using World.var?_cell La.g_x8 v_x8 0⟩
                       bT := ⟨_, _, bT⟩, bS := ⟨_, _, bS⟩, bE := ⟨_, _, bE⟩
                       lG := lg, lT := lt bT, lS := lt bS, lE := lt bE }⟩
theorem toByteO (a : Option Addr) (n c : Nat) (f : Nat → Int) (w : World) (hn : n ≤ 1048576) (hf : Byt f) (h : Seg w a n f) :
    Calls Tryz.prog 5 #[.slice a n c] w fun e w' => e = .returned (.slice (some ⟨w.heap.size, 0, none⟩) n n) ∧ Seg w' (some ⟨w.heap.size, 0, none⟩) n f ∧ Below w.heap.size w w' ∧ w.heap.size < w'.heap.size ∧ ∃ xs, w'.ownsRow w.heap.size 5 1 (.slice (some ⟨w.heap.size, 0, none⟩) n n) n xs := by
  obtain ⟨i0, hi, hz0, hz1, hz2⟩ := info_parts Tryz.infoByte
  have hm : n ≤ maxLen := by unfold maxLen; omega
  have hby : i0.bytes * n ≤ 281474976710656 := by rw [hz2]; omega
  rcases h with h | ⟨b, off, rfl, hb, hc⟩
  · subst h
    go_enter Tryz.func5, Tryz.ntmps5
    go_wp2_with (at_make; refine wpList_make_full _ rfl _ _ 22 rfl w.heap.size 5 i0 (.int .u8 0) 1 Tryz.underlying22 hi hz0 hz1 _ _ _ _ 0 rfl rfl rfl rfl hby hm (Nat.le_refl _) ?_; intro w1 hown hgr)
    refine wp_loop_rounds 1 ?_; rw [rounds_succ]; go_wp2
    go_ret
    exact ⟨rfl, .inl rfl, (Below.refl _ _).grown hgr (Nat.le_refl _) (fun _ h => by cases h), (hown.lt _ rfl).2, _, hown⟩
  · go_enter Tryz.func5, Tryz.ntmps5
    go_wp2_with (at_make; refine wpList_make_full _ rfl _ _ 22 rfl w.heap.size 5 i0 (.int .u8 0) 1 Tryz.underlying22 hi hz0 hz1 _ _ _ _ n rfl rfl rfl rfl hby hm (Nat.le_refl _) ?_; intro w1 hown hgr)
    have hbel : Below w.heap.size w w1 := (Below.refl _ _).grown hgr (Nat.le_refl _) (fun _ h => by cases h)
    have hown' : w1.ownsRow w.heap.size 5 1 (.slice (some ⟨w.heap.size, 0, none⟩) n n) n (cells8 (mix f 0) n) := by
      have e : (madeCells (Value.int .u8 0).cells (n * 1)).toList = cells8 (mix f 0) n := by rw [Nat.mul_one]; exact cells8_zero f n
      rw [e] at hown; exact hown
    clear hown hgr
    go_loopw [4] (fun i wr => ∃ k : Nat, k ≤ n ∧ i = .int .i64 k ∧ wr.ownsRow w.heap.size 5 1 (.slice (some ⟨w.heap.size, 0, none⟩) n n) n (cells8 (mix f k) n) ∧ Below w.heap.size w wr) (fun i _ => n - (intOf i).toNat)
    case atStart => exact ⟨0, Nat.zero_le _, rfl, hown', hbel⟩
    case round =>
      clear hown' hbel
      obtain ⟨k, hk, rfl, hown, hbel⟩ := hrel
      by_cases hlt : k < n
      · have hck : wr.cell? ⟨b, off + k, none⟩ = some (.int .u8 (f k)) := (hbel.cell (p := ⟨b, off + k, none⟩) hb).trans (hc k hlt)
        have ho : wr.cell? ⟨w.heap.size, k, none⟩ = some (.int .u8 (mix f k k)) := by rw [hown.cellAt k (by omega), cells8_get _ _ _ hlt]
        have hz := hown.frozenAt k
        have R := (hown.stored k (.int .u8 (f k))).1
        rw [cells8_set f n k hlt] at R
        have RB := hbel.setCell (p := ⟨w.heap.size, k, none⟩) (Nat.le_refl _) (.int .u8 (f k))
        have hfk := hf k
        clear hown
        go_wp2
        go_roundw
        case rel => exact ⟨k + 1, hlt, by go_num, R, RB⟩
        case measure => simp [intOf]; omega
      · obtain rfl : k = n := by omega
        go_wp2
        go_ret
        exact ⟨rfl, seg_own hown, hbel, (hown.lt _ rfl).2, _, hown⟩
end Go.Proofs.YtakmpmhjcngbbaaGreatDoor
