import Derived.Test.YthkppnmnjboiaaaDoorChW
import Derived.Test.YthkppnmnjboiaaaDoorLaid
namespace Go.Proofs.YthkppnmnjboiaaaDoor.fnChunks
open Go.ChangeShapes Go.WideShapes Go.ChangeAt Go.RowKit Go.Maps
set_option linter.unusedVariables false
set_option linter.unusedSimpArgs false

abbrev sE : ByteArray := { data := #[116, 104, 101, 32, 98, 121, 116, 101, 115, 32, 101, 110, 100, 32, 116, 111, 111, 32, 101, 97, 114, 108, 121] }
abbrev sT : ByteArray := { data := #[116, 104, 101, 32, 116, 101, 110, 116, 104, 32, 98, 121, 116, 101, 32, 105, 115, 32, 97, 98, 111, 118, 101, 32, 49] }
abbrev sS : ByteArray := { data := #[116, 104, 101, 32, 118, 97, 114, 105, 110, 116, 32, 99, 111, 117, 108, 100, 32, 98, 101, 32, 115, 104, 111, 114, 116, 101, 114] }
noncomputable def low : Nat := (World.holding Tryd.prog default ⟨#[], #[], []⟩).heap.size
def setAt (h : Array Obj) (g : Nat) (v : Value) : Array Obj := h.modify g fun
  | .cells _ t frozen => .cells #[v] t frozen
  | o => o
noncomputable def laidWorld (os : Os) : World :=
  let w0 := World.holding Tryd.prog os ⟨#[.cells #[.string sE] 127, .cells #[.string sT] 127, .cells #[.string sS] 127], #[], []⟩
  { w0 with heap := setAt (setAt (setAt w0.heap 0 (.iface 103 (.pointer (some ⟨low, 0, none⟩)))) 1 (.iface 103 (.pointer (some ⟨low + 1, 0, none⟩)))) 2 (.iface 103 (.pointer (some ⟨low + 2, 0, none⟩))) }
theorem laid_met (os : Os) (args : Array Value) : laidMetH Tryd.prog Rows.fnChunksRow.laid ((laidWorld os).forCall (fun _ _ => 0) ⟨#[], args, []⟩).memory :=
  laidMetH_of_parts (laidMet_of_run' 8 (by kernel_rfl) (by kernel_rfl)) (by kernel_rfl)
set_option maxRecDepth 100000 in
theorem contract (H : Type) (enc : TypeId × Value → H) (W : World) (base : Nat) (args : Array Value) (ds gs : List (DataW H)) (before : List MemPlace)
    (hval0 : ∀ (j : Nat) t v, Tryd.f3.params[j]? = some t → args[j]? = some v → Value.okWide Tryd.prog W .any base t v)
    (hW : DataW.Whole enc Tryd.prog Tryd.f3.params.toList Rows.fnChunksSpec.vars false W args.toList ds gs before) (hL : laidMetH Tryd.prog Rows.fnChunksRow.laid W) :
    Calls Tryd.prog 3 args W fun e W' => ∃ v, e = .returned v ∧ Rows.fnChunksSpec.post enc Tryd.prog Tryd.f3 false true false false W args v W' := by
  have hval : ∀ (j : Nat) t v, Tryd.f3.params[j]? = some t → args[j]? = some v → Value.okWide Tryd.prog W .any base t v := hval0
  have hW' := hW
  obtain ⟨p, q, hA0, hV0, rfl, hfz, hnd⟩ := hW
  have hA : DataW.TrodAll enc Tryd.prog W 0 (fun _ => true) true Tryd.f3.params.toList args.toList ds p := hA0
  have hV : DataW.TrodVars enc Tryd.prog W (fun _ => true) ["loop.example/s02772/impl.errEnds", "loop.example/s02772/impl.errTenth", "loop.example/s02772/impl.errShorter"] gs q := hV0
  rw [Tryd.params3] at hA hval
  obtain ⟨v0, vs0, d0, ds0, p0, q0, hargs, rfl, rfl, h0, r0⟩ := trodAll_cons hA
  obtain ⟨v1, vs1, d1, ds1, p1, q1, rfl, rfl, rfl, h1, r1⟩ := trodAll_cons r0
  obtain ⟨rfl, rfl, rfl⟩ := trodAll_nil r1
  obtain rfl : args = #[v0, v1] := by cases args; simp_all
  obtain ⟨aT, aS, aE, hE, vE, vT, vS⟩ := errs_of_laid3 hL
  have vr : ∀ {X : World}, Below W.heap.size W X → ∀ sp : Nat → Bool, DataW.TrodVars enc Tryd.prog X sp ["loop.example/s02772/impl.errEnds", "loop.example/s02772/impl.errTenth", "loop.example/s02772/impl.errShorter"] [tok enc (.iface 103 (.pointer (some aE))), tok enc (.iface 103 (.pointer (some aT))), tok enc (.iface 103 (.pointer (some aS)))] [.cell 0 0, .cell 1 0, .cell 2 0] :=
    fun hb sp => vars_read3 enc Tryd.underlying71 La.gE La.tE (var?_below vE hb) trivial La.gT La.tT (var?_below vT hb) trivial La.gS La.tS (var?_below vS hb) trivial sp
  obtain ⟨rfl, rfl⟩ := hV.unique (vr (Below.refl _ _) _)
  have k0 := h0
  have lt0 : ∀ x ∈ p0, x.block < W.heap.size := by obtain ⟨m, hm⟩ := k0; exact DataW.trod_lt m _ _ _ hm
  have k1 := h1
  have lt1 : ∀ x ∈ p1, x.block < W.heap.size := by obtain ⟨m, hm⟩ := k1; exact DataW.trod_lt m _ _ _ hm
  obtain ⟨a, n, c, f, rfl, hn, s, hf, hnc⟩ := openBytesC (hval 0 22 v0 rfl rfl) h0
  obtain ⟨a2, n2, c2, f2, rfl, hn2, s2, hf2, hnc2⟩ := openBytesC (hval 1 22 v1 rfl rfl) h1
  clear hA0 hV0 hval0
  refine (walk W a n c f a2 n2 c2 f2 aT aS aE aE hn hnc hn2 hnc2 s hf s2 hf2 hE).mono fun e W' ⟨he, bel⟩ => ?_
  subst he
  exact ⟨_, rfl, _, _, _, [], _, _, hW', trodAll_mk1 (shut_bool Tryd.underlying4 _), (trodAll_cons_mk (Below.trod La.laidOut (by kernel_rfl) (of_decide_eq_true (by kernel_rfl)) k0 bel lt0) (trodAll_cons_mk (Below.trod La.laidOut (by kernel_rfl) (of_decide_eq_true (by kernel_rfl)) k1 bel lt1) trodAll_mk0)), vr bel _, bel.frame _, fun h => by cases h⟩

set_option maxRecDepth 100000 in
theorem lifted (os : Os) (started : os.Started) (H : Type) (enc : TypeId × Value → H) (F : Stop.Interp) :
    ReturnsInHanded {} Tryd.checked os 3 .any ((OpenSpec.ofChange Rows.fnChunksSpec).preRow enc Tryd.prog Tryd.f3 Rows.fnChunksRow.domain false Rows.fnChunksRow.laid) (((OpenSpec.ofChange Rows.fnChunksSpec).at F).post enc Tryd.prog Tryd.f3 false true false false) := by
  refine returnsInHanded_of_row (C := Tryd.checked) (s := OpenSpec.ofChange Rows.fnChunksSpec) La.own started (by kernel_rfl) Tryd.func3
    (witness_row_at (enc := enc) (C := Tryd.checked) false (laidWorld os) #[.slice none 0 0, .slice none 0 0] rfl (by kernel_rfl) (by kernel_rfl) (by kernel_rfl)
      (OpenSpec.preRow_of_B rfl 8 (by kernel_rfl) (by kernel_rfl) (laid_met os _))) ?_
  intro W base args ds gs before hval hW _ _ _ hL _ _
  exact contract H enc W base args ds gs before hval hW hL

theorem said : Rows.FnChunksSaid :=
  OpenClaim.holds_of_cond 3 Tryd.f3 rfl rfl rfl rfl rfl rfl rfl ⟨rfl, rfl, rfl, rfl, rfl⟩ rfl rfl rfl rfl rfl (by kernel_rfl) Tryd.func3 (by kernel_rfl)
    (of_decide_eq_true (by kernel_rfl)) (by unfold Func.isWrapper; first | (rw [if_pos (by decide +kernel)]; kernel_rfl) | (rw [if_neg (by decide +kernel)]; exact ⟨rfl, rfl⟩))
    (fun os started H enc _ F => by rw [OpenClaim.pre_eq_preRow]; exact lifted os started H enc F)

theorem plain (f : FuncId) (fn : Func) (hf : Tryd.pinned.checked.prog.funcNamed "loop.example/s02772/laws.FnChunks" = some f) (hfn : Tryd.pinned.checked.prog.funcs[f]? = some fn) :
    true = Tryd.pinned.checked.prog.looks [] ∧ ∀ (j : Nat) t, fn.params[j]? = some t → Tryd.pinned.checked.prog.wantsStandIn t = false := by
  obtain rfl : f = 3 := Option.some.inj ((show Tryd.prog.funcNamed "loop.example/s02772/laws.FnChunks" = some 3 by kernel_rfl).symm.trans hf) |>.symm
  obtain rfl : fn = Tryd.f3 := (Option.some.inj (Tryd.func3.symm.trans hfn)).symm
  refine ⟨by kernel_rfl, fun j t ht => ?_⟩
  rw [Tryd.params3] at ht
  have hm := Array.mem_of_getElem? ht
  simp at hm
  subst hm
  exact (show Tryd.prog.wantsStandIn 22 = false by kernel_rfl)
end Go.Proofs.YthkppnmnjboiaaaDoor.fnChunks

namespace Go.Proofs.YthkppnmnjboiaaaDoor
theorem chunksCard : Rows.FnChunksCardSaid :=
  Claim7.holds_tied_plain_at .later [] _ _ _ _ fnChunks.said (fun _ h => by cases h) (by kernel_rfl) (fun _ h => by cases h) fnChunks_row_tie rfl ⟨rfl, rfl⟩ (by kernel_rfl) rfl fnChunks.plain (by kernel_rfl)
#print axioms chunksCard
end Go.Proofs.YthkppnmnjboiaaaDoor
