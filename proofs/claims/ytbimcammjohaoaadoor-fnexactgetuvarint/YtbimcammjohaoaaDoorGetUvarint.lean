import Derived.Test.YtbimcammjohaoaaDoorGm
import Derived.Test.YtbimcammjohaoaaDoorLaid
namespace Go.Proofs.YtbimcammjohaoaaDoor.fnExactGetUvarint
open Go.ChangeShapes Go.WideShapes Go.ChangeAt Go.RowKit
set_option linter.unusedVariables false
set_option linter.unusedSimpArgs false

set_option maxRecDepth 100000 in
set_option maxHeartbeats 1000000 in
theorem walk (w : World) (a : Option Addr) (n c : Nat) (f : Nat → Int) (x : Int) (aT aS aL aE : Addr) (hn : n ≤ 9223372036854775807) (h : Seg w a n f) (hf : Byt f) (hx : (Lit.int .i64 x).wf = true) (hE : Errs w w.heap.size aT aS aL aE) :
    Calls Tryd.prog 3 #[.slice a n c, .int .i64 x] w fun e w' => e = .returned (.bool true) ∧ Below w.heap.size w w' := by
  by_cases hl : n ≤ 1048576
  · obtain ⟨m, hm⟩ := cnt_ex f n x.toNat
    have HM := hid hm
    obtain ⟨V, hV⟩ : ∃ V, ((gX f n m x).1 : Int) = V := ⟨_, rfl⟩
    obtain ⟨A, hA⟩ : ∃ A, (gX f n m x).2.1 = A := ⟨_, rfl⟩
    obtain ⟨C, hC⟩ : ∃ C, ((gX f n m x).2.2 : Int) = C := ⟨_, rfl⟩
    have HVAC := hid (And.intro hV (And.intro hA hC))
    have HH := hid h
    have HE := hid hE
    have HF := hid hf
    clear hm hV hA hC h hE hf
    go_enter Tryd.func3, Tryd.ntmps3
    go_wp2_with fail
    refine (toByteS a n c f _ hl HF.out HH.out).mono ?_
    rintro e w1 ⟨rfl, s1, b1, z1⟩
    have HS1 := hid s1
    have HB1 := hid b1
    clear s1 b1
    go_wp2_with fail
    refine (specX _ n n m x f _ hl HF.out HS1.out HM.out).mono ?_
    rintro e w2 ⟨rfl, b2⟩
    rw [HVAC.out.1, HVAC.out.2.1, HVAC.out.2.2]
    have HB2 := hid (keepS HB1.out b2)
    clear b2
    go_wp2_with fail
    refine (toByteS a n c f _ hl HF.out (HH.out.below HB2.out)).mono ?_
    rintro e w3 ⟨rfl, s3, b3, z3⟩
    have HS3 := hid s3
    have HB3 := hid (keepS HB2.out b3)
    clear s3 b3
    go_wp2_with fail
    refine (implX w.heap.size _ n n m x f aT aS aL aE _ hl HF.out HS3.out HM.out (HE.out.below HB3.out) HB3.out.size).mono ?_
    rintro e w4 ⟨rfl, b4⟩
    rw [HVAC.out.1, HVAC.out.2.1, HVAC.out.2.2]
    have HB4 := hid (keepS HB3.out b4)
    have HS4 := hid (HS3.out.below b4)
    clear b4
    go_wp2_with fail
    refine (toByteS a n c f _ hl HF.out (HH.out.below HB4.out)).mono ?_
    rintro e w5 ⟨rfl, s5, b5, z5⟩
    have HS5 := hid s5
    have HS45 := hid (HS4.out.below b5)
    have HB5 := hid (keepS HB4.out b5)
    clear s5 b5
    go_wp2_with fail
    refine (eqByteS _ _ n n n f _ (by omega) HF.out HS45.out HS5.out).mono ?_
    rintro e w6 ⟨rfl, b6⟩
    have HB6 := hid (keepS HB5.out b6)
    clear b6
    go_wp2_with fail
    go_ret
    exact ⟨rfl, HB6.out⟩
  · go_enter Tryd.func3, Tryd.ntmps3
    go_wp2_with fail
    go_ret
    exact ⟨rfl, Below.refl _ _⟩

abbrev sE : ByteArray := { data := #[116, 104, 101, 32, 98, 121, 116, 101, 115, 32, 101, 110, 100, 32, 116, 111, 111, 32, 101, 97, 114, 108, 121] }
abbrev sT : ByteArray := { data := #[116, 104, 101, 32, 116, 101, 110, 116, 104, 32, 98, 121, 116, 101, 32, 105, 115, 32, 97, 98, 111, 118, 101, 32, 49] }
abbrev sS : ByteArray := { data := #[116, 104, 101, 32, 118, 97, 114, 105, 110, 116, 32, 99, 111, 117, 108, 100, 32, 98, 101, 32, 115, 104, 111, 114, 116, 101, 114] }
abbrev sL : ByteArray := { data := #[116, 104, 101, 32, 108, 101, 110, 103, 116, 104, 32, 105, 115, 32, 97, 98, 111, 118, 101, 32, 116, 104, 101, 32, 108, 105, 109, 105, 116] }
noncomputable def low : Nat := (World.holding Tryd.prog default ⟨#[], #[], []⟩).heap.size
def setAt (h : Array Obj) (g : Nat) (v : Value) : Array Obj := h.modify g fun
  | .cells _ t frozen => .cells #[v] t frozen
  | o => o
noncomputable def laidWorld (os : Os) : World :=
  let w0 := World.holding Tryd.prog os ⟨#[.cells #[.string sE] 107, .cells #[.string sT] 107, .cells #[.string sS] 107, .cells #[.string sL] 107], #[], []⟩
  { w0 with heap := setAt (setAt (setAt (setAt (setAt w0.heap 4 (.iface 70 (.agg #[.pointer (some ⟨5, 36, none⟩)]))) 3 (.iface 85 (.pointer (some ⟨low, 0, none⟩)))) 0 (.iface 85 (.pointer (some ⟨low + 1, 0, none⟩)))) 1 (.iface 85 (.pointer (some ⟨low + 2, 0, none⟩)))) 2 (.iface 85 (.pointer (some ⟨low + 3, 0, none⟩))) }
theorem laid_met (os : Os) (args : Array Value) : laidMetH Tryd.prog Rows.fnExactGetUvarintRow.laid ((laidWorld os).forCall (fun _ _ => 0) ⟨#[], args, []⟩).memory :=
  laidMetH_of_parts (laidMet_of_run' 8 (by kernel_rfl) (by kernel_rfl)) (by kernel_rfl)
set_option maxRecDepth 100000 in
theorem contract (H : Type) (enc : TypeId × Value → H) (W : World) (base : Nat) (args : Array Value) (ds gs : List (DataW H)) (before : List MemPlace)
    (hval0 : ∀ (j : Nat) t v, Tryd.f3.params[j]? = some t → args[j]? = some v → Value.okWide Tryd.prog W .any base t v)
    (hW : DataW.Whole enc Tryd.prog Tryd.f3.params.toList Rows.fnExactGetUvarintSpec.vars false W args.toList ds gs before) (hL : laidMetH Tryd.prog Rows.fnExactGetUvarintRow.laid W) :
    Calls Tryd.prog 3 args W fun e W' => ∃ v, e = .returned v ∧ Rows.fnExactGetUvarintSpec.post enc Tryd.prog Tryd.f3 false true false false W args v W' := by
  have hval : ∀ (j : Nat) t v, Tryd.f3.params[j]? = some t → args[j]? = some v → Value.okWide Tryd.prog W .any base t v := hval0
  have hW' := hW
  obtain ⟨p, q, hA0, hV0, rfl, hfz, hnd⟩ := hW
  have hA : DataW.TrodAll enc Tryd.prog W 0 (fun _ => true) true Tryd.f3.params.toList args.toList ds p := hA0
  have hV : DataW.TrodVars enc Tryd.prog W (fun _ => true) ["loop.example/s02772/impl.errEnds", "loop.example/s02772/impl.errTenth", "loop.example/s02772/impl.errShorter", "loop.example/s02772/impl.errTooLong"] gs q := hV0
  rw [Tryd.params3] at hA hval
  obtain ⟨v0, vs0, d0, ds0, p0, q0, hargs, rfl, rfl, h0, r0⟩ := trodAll_cons hA
  obtain ⟨v1, vs1, d1, ds1, p1, q1, rfl, rfl, rfl, h1, r1⟩ := trodAll_cons r0
  obtain ⟨rfl, rfl, rfl⟩ := trodAll_nil r1
  obtain rfl : args = #[v0, v1] := by cases args; simp_all
  obtain ⟨aT, aS, aL, aE, hE, vE, vT, vS, vL⟩ := errs_of_laid hL
  have vr : ∀ {X : World}, Below W.heap.size W X → ∀ sp : Nat → Bool, DataW.TrodVars enc Tryd.prog X sp ["loop.example/s02772/impl.errEnds", "loop.example/s02772/impl.errTenth", "loop.example/s02772/impl.errShorter", "loop.example/s02772/impl.errTooLong"] [tok enc (.iface 85 (.pointer (some aE))), tok enc (.iface 85 (.pointer (some aT))), tok enc (.iface 85 (.pointer (some aS))), tok enc (.iface 85 (.pointer (some aL)))] [.cell 3 0, .cell 0 0, .cell 1 0, .cell 2 0] :=
    fun hb sp => vars_read4 enc Tryd.underlying36 La.gE La.tE (var?_below vE hb) trivial La.gT La.tT (var?_below vT hb) trivial La.gS La.tS (var?_below vS hb) trivial La.gL La.tL (var?_below vL hb) trivial sp
  obtain ⟨rfl, rfl⟩ := hV.unique (vr (Below.refl _ _) _)
  have k0 := h0
  have lt0 : ∀ x ∈ p0, x.block < W.heap.size := by obtain ⟨m, hm⟩ := k0; exact DataW.trod_lt m _ _ _ hm
  obtain ⟨a, n, c, f, rfl, hn, s, hf⟩ := openBytes (hval 0 22 v0 rfl rfl) h0
  obtain ⟨x, rfl, rfl, rfl, hx⟩ := open_int Tryd.underlying3 (hval 1 3 v1 rfl rfl) h1
  clear hA0 hV0 hval0
  refine (walk W a n c f x aT aS aL aE hn s hf hx hE).mono fun e W' ⟨he, bel⟩ => ?_
  subst he
  exact ⟨_, rfl, _, _, _, [], _, _, hW', trodAll_mk1 (shut_bool Tryd.underlying4 _), (trodAll_cons_mk (Below.trod La.laidOut (by kernel_rfl) (of_decide_eq_true (by kernel_rfl)) k0 bel lt0) (trodAll_cons_mk (shut_int Tryd.underlying3 hx) trodAll_mk0)), vr bel _, bel.frame _, fun h => by cases h⟩

set_option maxRecDepth 100000 in
theorem lifted (os : Os) (started : os.Started) (H : Type) (enc : TypeId × Value → H) (F : Stop.Interp) :
    ReturnsInHanded {} Tryd.checked os 3 .any ((OpenSpec.ofChange Rows.fnExactGetUvarintSpec).preRow enc Tryd.prog Tryd.f3 Rows.fnExactGetUvarintRow.domain false Rows.fnExactGetUvarintRow.laid) (((OpenSpec.ofChange Rows.fnExactGetUvarintSpec).at F).post enc Tryd.prog Tryd.f3 false true false false) := by
  refine returnsInHanded_of_row (C := Tryd.checked) (s := OpenSpec.ofChange Rows.fnExactGetUvarintSpec) La.own started (by kernel_rfl) Tryd.func3
    (witness_row_at (enc := enc) (C := Tryd.checked) false (laidWorld os) #[.slice none 0 0, .int .i64 0] rfl (by kernel_rfl) (by kernel_rfl) (by kernel_rfl)
      (OpenSpec.preRow_of_B rfl 8 (by kernel_rfl) (by kernel_rfl) (laid_met os _))) ?_
  intro W base args ds gs before hval hW _ _ _ hL _ _
  exact contract H enc W base args ds gs before hval hW hL

theorem said : Rows.FnExactGetUvarintSaid :=
  OpenClaim.holds_of_cond 3 Tryd.f3 rfl rfl rfl rfl rfl rfl rfl ⟨rfl, rfl, rfl, rfl, rfl⟩ rfl rfl rfl rfl rfl (by kernel_rfl) Tryd.func3 (by kernel_rfl)
    (of_decide_eq_true (by kernel_rfl)) (by unfold Func.isWrapper; first | (rw [if_pos (by decide +kernel)]; kernel_rfl) | (rw [if_neg (by decide +kernel)]; exact ⟨rfl, rfl⟩))
    (fun os started H enc _ F => by rw [OpenClaim.pre_eq_preRow]; exact lifted os started H enc F)

theorem plain (f : FuncId) (fn : Func) (hf : Tryd.pinned.checked.prog.funcNamed "loop.example/s02772/laws.FnExactGetUvarint" = some f) (hfn : Tryd.pinned.checked.prog.funcs[f]? = some fn) :
    true = Tryd.pinned.checked.prog.looks [] ∧ ∀ (j : Nat) t, fn.params[j]? = some t → Tryd.pinned.checked.prog.wantsStandIn t = false := by
  obtain rfl : f = 3 := Option.some.inj ((show Tryd.prog.funcNamed "loop.example/s02772/laws.FnExactGetUvarint" = some 3 by kernel_rfl).symm.trans hf) |>.symm
  obtain rfl : fn = Tryd.f3 := (Option.some.inj (Tryd.func3.symm.trans hfn)).symm
  refine ⟨by kernel_rfl, fun j t ht => ?_⟩
  rw [Tryd.params3] at ht
  have hm := Array.mem_of_getElem? ht
  simp at hm
  rcases hm with rfl | rfl
  · exact (show Tryd.prog.wantsStandIn 22 = false by kernel_rfl)
  · exact (show Tryd.prog.wantsStandIn 3 = false by kernel_rfl)
end Go.Proofs.YtbimcammjohaoaaDoor.fnExactGetUvarint

namespace Go.Proofs.YtbimcammjohaoaaDoor
theorem getUvarintCard : Rows.FnExactGetUvarintCardSaid :=
  Claim7.holds_tied_plain_at .later [] _ _ _ _ fnExactGetUvarint.said (fun _ h => by cases h) (by kernel_rfl) (fun _ h => by cases h) fnExactGetUvarint_row_tie rfl ⟨rfl, rfl⟩ (by kernel_rfl) rfl fnExactGetUvarint.plain (by kernel_rfl)
#print axioms getUvarintCard
end Go.Proofs.YtbimcammjohaoaaDoor
