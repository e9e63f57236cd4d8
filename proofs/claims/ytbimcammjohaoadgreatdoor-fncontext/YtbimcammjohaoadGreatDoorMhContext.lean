import Derived.Test.YtbimcammjohaoadGreatDoorMg37
import Derived.Test.YtbimcammjohaoadGreatDoorMg34
namespace Go.Proofs.YtbimcammjohaoadGreatDoor.fnContext
open Go.ChangeShapes Go.WideShapes Go.ChangeAt Go.RowKit Go.Maps
set_option linter.unusedVariables false
set_option linter.unusedSimpArgs false

abbrev sE : ByteArray := { data := #[116, 104, 101, 32, 98, 121, 116, 101, 115, 32, 101, 110, 100, 32, 116, 111, 111, 32, 101, 97, 114, 108, 121] }
abbrev sT : ByteArray := { data := #[116, 104, 101, 32, 116, 101, 110, 116, 104, 32, 98, 121, 116, 101, 32, 105, 115, 32, 97, 98, 111, 118, 101, 32, 49] }
abbrev sS : ByteArray := { data := #[116, 104, 101, 32, 118, 97, 114, 105, 110, 116, 32, 99, 111, 117, 108, 100, 32, 98, 101, 32, 115, 104, 111, 114, 116, 101, 114] }
abbrev sM : ByteArray := { data := #[97, 32, 110, 117, 109, 98, 101, 114, 32, 105, 115, 32, 97, 98, 111, 118, 101, 32, 105, 116, 115, 32, 108, 105, 109, 105, 116] }
abbrev sO : ByteArray := { data := #[111, 117, 116, 32, 111, 102, 32, 111, 114, 100, 101, 114] }
abbrev sN : ByteArray := { data := #[97, 32, 114, 101, 112, 108, 105, 99, 97, 32, 104, 97, 115, 32, 110, 111, 32, 114, 117, 110, 115] }
noncomputable def low : Nat := (World.holding Tryz.prog default ⟨#[], #[], []⟩).heap.size
def setAt (h : Array Obj) (g : Nat) (v : Value) : Array Obj := h.modify g fun
  | .cells _ t frozen => .cells #[v] t frozen
  | o => o
noncomputable def laidWorld (os : Os) : World :=
  let w0 := World.holding Tryz.prog os ⟨#[.cells #[.string sE] 184, .cells #[.string sT] 184, .cells #[.string sS] 184, .cells #[.string sM] 184, .cells #[.string sO] 184, .cells #[.string sN] 184], #[], []⟩
  { w0 with heap := setAt (setAt (setAt (setAt (setAt (setAt (setAt w0.heap 0 (.iface 126 (.agg #[.pointer (some ⟨7, 61, none⟩)]))) 4 (.iface 164 (.pointer (some ⟨low, 0, none⟩)))) 5 (.iface 164 (.pointer (some ⟨low + 1, 0, none⟩)))) 6 (.iface 164 (.pointer (some ⟨low + 2, 0, none⟩)))) 1 (.iface 164 (.pointer (some ⟨low + 3, 0, none⟩)))) 2 (.iface 164 (.pointer (some ⟨low + 4, 0, none⟩)))) 3 (.iface 164 (.pointer (some ⟨low + 5, 0, none⟩))) }
theorem laid_met (os : Os) (args : Array Value) : laidMetH Tryz.prog Rows.fnContextRow.laid ((laidWorld os).forCall (fun _ _ => 0) ⟨#[], args, []⟩).memory :=
  laidMetH_of_parts (laidMet_of_run' 8 (by kernel_rfl) (by kernel_rfl)) (by kernel_rfl)
set_option maxRecDepth 100000 in
theorem contract (H : Type) (enc : TypeId × Value → H) (W : World) (base : Nat) (args : Array Value) (ds gs : List (DataW H)) (before : List MemPlace)
    (hval0 : ∀ (j : Nat) t v, Tryz.f3.params[j]? = some t → args[j]? = some v → Value.okWide Tryz.prog W .any base t v)
    (hW : DataW.Whole enc Tryz.prog Tryz.f3.params.toList Rows.fnContextSpec.vars false W args.toList ds gs before) (hL : laidMetH Tryz.prog Rows.fnContextRow.laid W) :
    Calls Tryz.prog 3 args W fun e W' => ∃ v, e = .returned v ∧ Rows.fnContextSpec.post enc Tryz.prog Tryz.f3 false true false false W args v W' := by
  have hval : ∀ (j : Nat) t v, Tryz.f3.params[j]? = some t → args[j]? = some v → Value.okWide Tryz.prog W .any base t v := hval0
  have hW' := hW
  obtain ⟨p, q, hA0, hV0, rfl, hfz, hnd⟩ := hW
  have hA : DataW.TrodAll enc Tryz.prog W 0 (fun _ => true) true Tryz.f3.params.toList args.toList ds p := hA0
  have hV : DataW.TrodVars enc Tryz.prog W (fun _ => true) ["loop.example/s02772/impl.errLimit", "loop.example/s02772/impl.errEnds", "loop.example/s02772/impl.errTenth", "loop.example/s02772/impl.errShorter", "loop.example/s02772/impl.errOrder", "loop.example/s02772/impl.errNoRuns"] gs q := hV0
  rw [Tryz.params3] at hA hval
  obtain ⟨v0, vs0, d0, ds0, p0, q0, hargs, rfl, rfl, h0, r0⟩ := trodAll_cons hA
  obtain ⟨rfl, rfl, rfl⟩ := trodAll_nil r0
  obtain rfl : args = #[v0] := by cases args; simp_all
  obtain ⟨aT, aS, aE, aM, aO, aN, hE, vE, vT, vS, vM, vO, vN⟩ := errs_of_laidC hL
  have vr : ∀ {X : World}, Below W.heap.size W X → ∀ sp : Nat → Bool, DataW.TrodVars enc Tryz.prog X sp ["loop.example/s02772/impl.errLimit", "loop.example/s02772/impl.errEnds", "loop.example/s02772/impl.errTenth", "loop.example/s02772/impl.errShorter", "loop.example/s02772/impl.errOrder", "loop.example/s02772/impl.errNoRuns"] [tok enc (.iface 164 (.pointer (some aM))), tok enc (.iface 164 (.pointer (some aE))), tok enc (.iface 164 (.pointer (some aT))), tok enc (.iface 164 (.pointer (some aS))), tok enc (.iface 164 (.pointer (some aO))), tok enc (.iface 164 (.pointer (some aN)))] [.cell 1 0, .cell 4 0, .cell 5 0, .cell 6 0, .cell 2 0, .cell 3 0] :=
    fun hb sp => vars_read6 enc Tryz.underlying61 La.gM La.tM (var?_below vM hb) trivial La.gE La.tE (var?_below vE hb) trivial La.gT La.tT (var?_below vT hb) trivial La.gS La.tS (var?_below vS hb) trivial La.gO La.tO (var?_below vO hb) trivial La.gN La.tN (var?_below vN hb) trivial sp
  obtain ⟨rfl, rfl⟩ := hV.unique (vr (Below.refl _ _) _)
  have k0 := h0
  have lt0 : ∀ x ∈ p0, x.block < W.heap.size := by obtain ⟨m, hm⟩ := k0; exact DataW.trod_lt m _ _ _ hm
  obtain ⟨a, n, c, f, rfl, hn, s, hf, hnc⟩ := openBytesC (hval 0 22 v0 rfl rfl) h0
  clear hA0 hV0 hval0
  refine (walk W a n c f aT aS aE aE hn hnc s hf hE).mono fun e W' ⟨he, bel⟩ => ?_
  subst he
  exact ⟨_, rfl, _, _, _, [], _, _, hW', trodAll_mk1 (shut_bool Tryz.underlying4 _), (trodAll_cons_mk (Below.trod La.laidOut (by kernel_rfl) (of_decide_eq_true (by kernel_rfl)) k0 bel lt0) trodAll_mk0), vr bel _, bel.frame _, fun h => by cases h⟩

set_option maxRecDepth 100000 in
theorem lifted (os : Os) (started : os.Started) (H : Type) (enc : TypeId × Value → H) (F : Stop.Interp) :
    ReturnsInHanded {} Tryz.checked os 3 .any ((OpenSpec.ofChange Rows.fnContextSpec).preRow enc Tryz.prog Tryz.f3 Rows.fnContextRow.domain false Rows.fnContextRow.laid) (((OpenSpec.ofChange Rows.fnContextSpec).at F).post enc Tryz.prog Tryz.f3 false true false false) := by
  refine returnsInHanded_of_row (C := Tryz.checked) (s := OpenSpec.ofChange Rows.fnContextSpec) La.own started (by kernel_rfl) Tryz.func3
    (witness_row_at (enc := enc) (C := Tryz.checked) false (laidWorld os) #[.slice none 0 0] rfl (by kernel_rfl) (by kernel_rfl) (by kernel_rfl)
      (OpenSpec.preRow_of_B rfl 8 (by kernel_rfl) (by kernel_rfl) (laid_met os _))) ?_
  intro W base args ds gs before hval hW _ _ _ hL _ _
  exact contract H enc W base args ds gs before hval hW hL

theorem said : Rows.FnContextSaid :=
  OpenClaim.holds_of_cond 3 Tryz.f3 rfl rfl rfl rfl rfl rfl rfl ⟨rfl, rfl, rfl, rfl, rfl⟩ rfl rfl rfl rfl rfl (by kernel_rfl) Tryz.func3 (by kernel_rfl)
    (of_decide_eq_true (by kernel_rfl)) (by unfold Func.isWrapper; first | (rw [if_pos (by decide +kernel)]; kernel_rfl) | (rw [if_neg (by decide +kernel)]; exact ⟨rfl, rfl⟩))
    (fun os started H enc _ F => by rw [OpenClaim.pre_eq_preRow]; exact lifted os started H enc F)

theorem plain (f : FuncId) (fn : Func) (hf : Tryz.pinned.checked.prog.funcNamed "loop.example/s02772/laws.FnContext" = some f) (hfn : Tryz.pinned.checked.prog.funcs[f]? = some fn) :
    true = Tryz.pinned.checked.prog.looks [] ∧ ∀ (j : Nat) t, fn.params[j]? = some t → Tryz.pinned.checked.prog.wantsStandIn t = false := by
  obtain rfl : f = 3 := Option.some.inj ((show Tryz.prog.funcNamed "loop.example/s02772/laws.FnContext" = some 3 by kernel_rfl).symm.trans hf) |>.symm
  obtain rfl : fn = Tryz.f3 := (Option.some.inj (Tryz.func3.symm.trans hfn)).symm
  refine ⟨by kernel_rfl, fun j t ht => ?_⟩
  rw [Tryz.params3] at ht
  have hm := Array.mem_of_getElem? ht
  simp at hm
  subst hm
  exact (show Tryz.prog.wantsStandIn 22 = false by kernel_rfl)
end Go.Proofs.YtbimcammjohaoadGreatDoor.fnContext

namespace Go.Proofs.YtbimcammjohaoadGreatDoor
theorem contextCard : Rows.FnContextCardSaid :=
  Claim7.holds_tied_plain_at .later [] _ _ _ _ fnContext.said (fun _ h => by cases h) (by kernel_rfl) (fun _ h => by cases h) fnContext_row_tie rfl ⟨rfl, rfl⟩ (by kernel_rfl) rfl fnContext.plain (by kernel_rfl)
#print axioms contextCard
end Go.Proofs.YtbimcammjohaoadGreatDoor
