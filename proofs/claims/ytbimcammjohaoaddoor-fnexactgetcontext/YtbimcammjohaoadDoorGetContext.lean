import Derived.Test.YtbimcammjohaoadDoorGz
import Derived.Test.YtbimcammjohaoadDoorLaid
import Derived.Test.YtbimcammjohaoadDoorByo
namespace Go.Proofs.YtbimcammjohaoadDoor.fnExactGetContext
open Go.ChangeShapes Go.WideShapes Go.ChangeAt Go.RowKit Go.Maps
set_option linter.unusedVariables false
set_option linter.unusedSimpArgs false

noncomputable def ansL (f : Nat → Int) (n : Nat) (x : Int) : List Rn := match rdC f n x with
  | none => []
  | some r => flatG r.1
noncomputable def ansA (f : Nat → Int) (n : Nat) (x : Int) : Int := match rdC f n x with
  | none => x
  | some r => (r.2 : Int)
noncomputable def ansC (f : Nat → Int) (n : Nat) (x : Int) : Int := match rdC f n x with
  | none => 1
  | some _ => 0
theorem ansL_len {f : Nat → Int} (hf : Byt f) (n : Nat) (x : Int) : (ansL f n x).length ≤ 1000 := by
  unfold ansL
  split
  · simp
  · rename_i r h
    have := flatG_len r.1 _ _ (rdC_in hf (g := r.1) (x' := r.2) h).2.2 (by omega)
    omega
theorem specAns (a : Option Addr) (n c : Nat) (x : Int) (f : Nat → Int) (w : World) (hn : n ≤ 1048576) (hnc : n ≤ c) (hcc : c ≤ 1048576) (hf : Byt f) (hs : Seg w a n f) :
    Calls Tryd.prog 5 #[.slice a n c, .int .i64 x] w fun e w' => Below w.heap.size w w' ∧ ∃ v, e = .returned (.tuple #[.agg #[v], .int .i64 (ansA f n x), .int .i64 (ansC f n x)]) ∧ FR w' w.heap.size v (ansL f n x) := by
  refine (specGet a n c x f w hn hnc hcc hf hs).mono ?_
  rintro e w1 ⟨b, ⟨g, x', v, hr, rfl, hfr⟩ | ⟨hr, rfl⟩⟩
  · unfold ansA ansC ansL; rw [hr]; exact ⟨b, v, rfl, hfr⟩
  · unfold ansA ansC ansL; rw [hr]; exact ⟨b, _, rfl, World.ownsRow_nil _ _ _ _⟩
theorem implAns (B : Nat) (a : Option Addr) (n c : Nat) (x : Int) (f : Nat → Int) (aT aS aL aE : Addr) (w : World) (hn : n ≤ 1048576) (hf : Byt f) (hs : Seg w a n f) (hE : Errs w B aT aS aL aE) (hB : B ≤ w.heap.size) (hab : ∀ y, a = some y → y.block < w.heap.size) :
    Calls Tryd.prog 7 #[.slice a n c, .int .i64 x] w fun e w' => Below w.heap.size w w' ∧ ∃ v, e = .returned (.tuple #[.agg #[v], .int .i64 (ansA f n x), .int .i64 (ansC f n x)]) ∧ FR w' w.heap.size v (ansL f n x) := by
  refine (implGet B a n c x f aT aS aL aE w hn hf hs hE hB hab).mono ?_
  rintro e w1 ⟨b, ⟨g, x', v, hr, rfl, hfr⟩ | ⟨hr, rfl⟩⟩
  · unfold ansA ansC ansL; rw [hr]; exact ⟨b, v, rfl, hfr⟩
  · unfold ansA ansC ansL; rw [hr]; exact ⟨b, _, rfl, World.ownsRow_nil _ _ _ _⟩

set_option maxRecDepth 100000 in
set_option maxHeartbeats 1000000 in
theorem walk (w : World) (a : Option Addr) (n c : Nat) (f : Nat → Int) (x : Int) (aT aS aL aE : Addr) (hn : n ≤ 9223372036854775807) (h : Seg w a n f) (hf : Byt f) (hx : (Lit.int .i64 x).wf = true) (hE : Errs w w.heap.size aT aS aL aE) :
    Calls Tryd.prog 3 #[.slice a n c, .int .i64 x] w fun e w' => e = .returned (.bool true) ∧ Below w.heap.size w w' := by
  by_cases hl : n ≤ 1048576
  · have HSP : Hid (∀ (a' : Option Addr) (w' : World), Seg w' a' n f → Calls Tryd.prog 5 #[.slice a' n n, .int .i64 x] w' fun e w2 => Below w'.heap.size w' w2 ∧ ∃ v, e = .returned (.tuple #[.agg #[v], .int .i64 (ansA f n x), .int .i64 (ansC f n x)]) ∧ FR w2 w'.heap.size v (ansL f n x)) := fun a' w' hs => specAns a' n n x f w' hl (Nat.le_refl _) hl hf hs
    have HIM : Hid (∀ (g : Nat) (w' : World), Seg w' (some ⟨g, 0, none⟩) n f → g < w'.heap.size → Below w.heap.size w w' → Calls Tryd.prog 7 #[.slice (some ⟨g, 0, none⟩) n n, .int .i64 x] w' fun e w2 => Below w'.heap.size w' w2 ∧ ∃ v, e = .returned (.tuple #[.agg #[v], .int .i64 (ansA f n x), .int .i64 (ansC f n x)]) ∧ FR w2 w'.heap.size v (ansL f n x)) :=
      fun g w' hs hg hb => implAns w.heap.size (some ⟨g, 0, none⟩) n n x f aT aS aL aE w' hl hf hs (hE.below hb) hb.size (fun y hy => by injection hy with hy; subst hy; exact hg)
    have HLen := ansL_len hf n x
    obtain ⟨L, hL⟩ : ∃ L, ansL f n x = L := ⟨_, rfl⟩
    obtain ⟨A, hA⟩ : ∃ A, ansA f n x = A := ⟨_, rfl⟩
    obtain ⟨C, hC⟩ : ∃ C, ansC f n x = C := ⟨_, rfl⟩
    rw [hL, hA, hC] at HSP HIM
    rw [hL] at HLen
    have HTB : Hid (∀ w' : World, Below w.heap.size w w' → Calls Tryd.prog 6 #[.slice a n c] w' fun e w2 => e = .returned (.slice (some ⟨w'.heap.size, 0, none⟩) n n) ∧ Seg w2 (some ⟨w'.heap.size, 0, none⟩) n f ∧ Below w'.heap.size w' w2 ∧ w'.heap.size < w2.heap.size ∧ ∃ xs, w2.ownsRow w'.heap.size 5 1 (.slice (some ⟨w'.heap.size, 0, none⟩) n n) n xs) := fun w' hb => toByteO a n c f w' hl hf (h.below hb)
    have HF := hid hf
    clear h hE hf hx hL hA hC
    go_enter Tryd.func3, Tryd.ntmps3
    go_wp2_with fail
    refine (HTB.out w (Below.refl _ _)).mono ?_
    rintro e w1 ⟨rfl, s1, b1, z1, _⟩
    have HS1 := hid s1
    have HB1 := hid b1
    clear s1 b1
    go_wp2_with fail
    refine (HSP.out _ w1 HS1.out).mono ?_
    rintro e w2 ⟨b2, v2, rfl, fr2⟩
    obtain ⟨y2, m2, c2, rfl⟩ := row_form fr2
    have HV2 : Hid (∀ g, (Value.slice y2 m2 c2).ownBlock = some g → g < w2.heap.size) := hid fun g hg => (World.ownsRow.lt fr2 g hg).2
    have HB2 := hid (keepS HB1.out b2)
    have zz2 := b2.size
    obtain ⟨W3, hW3⟩ : ∃ W3, w2.alloc (.cells #[.slice y2 m2 c2] 25) = W3 := ⟨_, rfl⟩
    have b3 : Below w2.heap.size w2 W3 := by rw [← hW3]; exact (Below.refl _ _).alloc (Nat.le_refl _) _
    have zz3 : w2.heap.size < W3.heap.size := by rw [← hW3]; simp
    have xw3 : W3.cell? ⟨w2.heap.size, 0, none⟩ = some (.slice y2 m2 c2) := by rw [← hW3]; simp
    have HFw3 := hid (fr2.below b3)
    have HB3 := hid (keepS HB2.out b3)
    clear b2 fr2 HS1 HB1 b3 HB2
    go_wp2_with fail
    try rw [hW3]
    clear hW3
    refine (HTB.out W3 HB3.out).mono ?_
    rintro e w4 ⟨rfl, s4, b4, z4, xs4, o4⟩
    have HS4 := hid s4
    have HO4 := hid o4
    have xw4 := (b4.cell (p := ⟨w2.heap.size, 0, none⟩) zz3).trans xw3
    have HFw4 := hid (HFw3.out.below b4)
    have HB4 := hid (keepS HB3.out b4)
    clear s4 o4 b4 xw3 HFw3 HB3
    go_wp2_with fail
    refine (HIM.out _ w4 HS4.out z4 HB4.out).mono ?_
    rintro e w5 ⟨b5, v5, rfl, fr5⟩
    obtain ⟨y5, m5, c5, rfl⟩ := row_form fr5
    have HV5 : Hid (∀ g, (Value.slice y5 m5 c5).ownBlock = some g → w4.heap.size ≤ g ∧ g < w5.heap.size) := hid fun g hg => World.ownsRow.lt fr5 g hg
    have zz5 := b5.size
    obtain ⟨W6, hW6⟩ : ∃ W6, w5.alloc (.cells #[.slice y5 m5 c5] 25) = W6 := ⟨_, rfl⟩
    have b6' : Below w5.heap.size w5 W6 := by rw [← hW6]; exact (Below.refl _ _).alloc (Nat.le_refl _) _
    have b6 := keepS b5 b6'
    have zz6 : w5.heap.size < W6.heap.size := by rw [← hW6]; simp
    have xg6 : W6.cell? ⟨w5.heap.size, 0, none⟩ = some (.slice y5 m5 c5) := by rw [← hW6]; simp
    have xw6 := (b6.cell (p := ⟨w2.heap.size, 0, none⟩) (show w2.heap.size < w4.heap.size by omega)).trans xw4
    have HFg6 := hid (fr5.below b6')
    have HFw6 := hid (HFw4.out.below b6)
    have HS6 := hid (HS4.out.below b6)
    have HO6 := hid (owns_below HO4.out b6 (fun k hk => by simp [Value.ownBlock] at hk; omega))
    have HB6 := hid (keepS HB4.out b6)
    clear b5 b6 b6' fr5 xw4 HFw4 HS4 HO4 HB4
    go_wp2_with fail
    try rw [hW6]
    clear hW6
    refine (eqFR HFg6.out HFw6.out (by omega)).mono ?_
    rintro e w7 ⟨rfl, b7⟩
    have xw7 := (b7.cell (p := ⟨w2.heap.size, 0, none⟩) (show w2.heap.size < W6.heap.size by omega)).trans xw6
    have xg7 := (b7.cell (p := ⟨w5.heap.size, 0, none⟩) (show w5.heap.size < W6.heap.size by omega)).trans xg6
    have HFg7 := hid (HFg6.out.below b7)
    have HFw7 := hid (HFw6.out.below b7)
    have HB7 := hid (keepS HB6.out b7)
    have zz7 := b7.size
    have HS7 := hid (HS6.out.below b7)
    have HO7 := hid (owns_below HO6.out b7 (fun k hk => by simp [Value.ownBlock] at hk; omega))
    clear xw6 xg6 HFg6 HFw6 HB6 b7 HS6 HO6
    go_wp2_with fail
    refine (HTB.out w7 HB7.out).mono ?_
    rintro e w8 ⟨rfl, s8, b8, z8, _⟩
    have HT8 := hid s8
    clear s8
    have xw8 := (b8.cell (p := ⟨w2.heap.size, 0, none⟩) (show w2.heap.size < w7.heap.size by omega)).trans xw7
    have xg8 := (b8.cell (p := ⟨w5.heap.size, 0, none⟩) (show w5.heap.size < w7.heap.size by omega)).trans xg7
    have HFg8 := hid (HFg7.out.below b8)
    have HFw8 := hid (HFw7.out.below b8)
    have HB8 := hid (keepS HB7.out b8)
    have zz8 := b8.size
    have HS8 := hid (HS7.out.below b8)
    have HO8 := hid (owns_below HO7.out b8 (fun k hk => by simp [Value.ownBlock] at hk; omega))
    clear xw7 xg7 HFg7 HFw7 HB7 b8 HS7 HO7
    go_wp2_with fail
    refine (eqByteS _ _ n n n f _ (by omega) HF.out HS8.out HT8.out).mono ?_
    rintro e w9 ⟨rfl, b9⟩
    clear HT8
    have xw9 := (b9.cell (p := ⟨w2.heap.size, 0, none⟩) (show w2.heap.size < w8.heap.size by omega)).trans xw8
    have xg9 := (b9.cell (p := ⟨w5.heap.size, 0, none⟩) (show w5.heap.size < w8.heap.size by omega)).trans xg8
    have HFg9 := hid (HFg8.out.below b9)
    have HFw9 := hid (HFw8.out.below b9)
    have HB9 := hid (keepS HB8.out b9)
    have zz9 := b9.size
    have HS9 := hid (HS8.out.below b9)
    have HO9 := hid (owns_below HO8.out b9 (fun k hk => by simp [Value.ownBlock] at hk; omega))
    clear xw8 xg8 HFg8 HFw8 HB8 b9 HS8 HO8
    go_wp2_with fail
    refine (markB W3.heap.size W3.heap.size n n 1 xs4 w9 (by omega) (by omega) HO9.out).mono ?_
    rintro e wA ⟨rfl, bA, zA, _, oA⟩
    have grA := grownR bA (Nat.le_of_eq zA.symm) (fun b _ hb => oA b hb)
    have xwA := grA.cell xw9 (by simp; omega)
    have xgA := grA.cell xg9 (by simp; omega)
    have HFgA := hid (HFg9.out.gr grA (fun g hg e => by injection e with e; have := (HV5.out g hg).1; omega))
    have HFwA := hid (HFw9.out.gr grA (fun g hg e => by injection e with e; have := HV2.out g hg; omega))
    have HBA := hid (HB9.out.trans (bA.mono (by omega)))
    clear bA oA grA xw9 xg9 HFg9 HFw9 HS9 HO9 HB9
    go_wp2_with fail
    refine (eqFR HFgA.out HFwA.out (by omega)).mono ?_
    rintro e wB ⟨rfl, bB⟩
    have xwB := (bB.cell (p := ⟨w2.heap.size, 0, none⟩) (show w2.heap.size < wA.heap.size by omega)).trans xwA
    have xgB := (bB.cell (p := ⟨w5.heap.size, 0, none⟩) (show w5.heap.size < wA.heap.size by omega)).trans xgA
    have HFgB := hid (HFgA.out.below bB)
    have HFwB := hid (HFwA.out.below bB)
    have HBB := hid (keepS HBA.out bB)
    have zzB := bB.size
    clear xwA xgA HFgA HFwA HBA bB
    go_wp2_with fail
    refine (markFR HFgB.out (by omega) HLen 1 (by omega)).mono ?_
    rintro e wC ⟨rfl, grC, aC, cC, eC, rsC⟩
    have xwC := grC.cell xwB (fun e => by have := (HV5.out w2.heap.size e.symm).1; omega)
    have xgC := grC.cell xgB (fun e => by have := (HV5.out w5.heap.size e.symm).2; omega)
    have HFwC := hid (HFwB.out.gr grC (fun g hg e => by have h1 := HV2.out g hg; have h2 := (HV5.out g e.symm).1; omega))
    have HBC := hid (HBB.out.grown grC HBB.out.size (fun k hk => by have := (HV5.out k hk).1; omega))
    have zzC := grC.size
    have HRC := hid rsC
    injection eC with eC1 eC2 eC3
    subst eC1 eC2 eC3
    clear grC rsC xwB xgB HFgB HFwB HBB
    go_wp2_with fail
    refine (heldContext _ _ _ 1 wC (by omega) (by omega) HRC.out).mono ?_
    rintro e wD ⟨rfl, bD⟩
    have xwD := (bD.cell (p := ⟨w2.heap.size, 0, none⟩) (show w2.heap.size < wC.heap.size by omega)).trans xwC
    have HFwD := hid (HFwC.out.below bD)
    have HBD := hid (keepS HBC.out bD)
    have zzD := bD.size
    clear bD xwC xgC HFwC HBC HRC
    go_wp2_with fail
    refine (HTB.out wD HBD.out).mono ?_
    rintro e wE ⟨rfl, sE, bE, zE, _⟩
    have HSE := hid sE
    have xwE := (bE.cell (p := ⟨w2.heap.size, 0, none⟩) (show w2.heap.size < wD.heap.size by omega)).trans xwD
    have HFwE := hid (HFwD.out.below bE)
    have HBE := hid (keepS HBD.out bE)
    clear sE bE xwD HFwD HBD
    go_wp2_with fail
    refine (HIM.out _ wE HSE.out zE HBE.out).mono ?_
    rintro e wF ⟨bF, vF, rfl, frF⟩
    obtain ⟨yF, mF, cF, rfl⟩ := row_form frF
    have zzF := bF.size
    obtain ⟨WG, hWG⟩ : ∃ WG, wF.alloc (.cells #[.slice yF mF cF] 25) = WG := ⟨_, rfl⟩
    have bG' : Below wF.heap.size wF WG := by rw [← hWG]; exact (Below.refl _ _).alloc (Nat.le_refl _) _
    have bG := keepS bF bG'
    have xhG : WG.cell? ⟨wF.heap.size, 0, none⟩ = some (.slice yF mF cF) := by rw [← hWG]; simp
    have xwG := (bG.cell (p := ⟨w2.heap.size, 0, none⟩) (show w2.heap.size < wE.heap.size by omega)).trans xwE
    have HFhG := hid (frF.below bG')
    have HFwG := hid (HFwE.out.below bG)
    have HBG := hid (keepS HBE.out bG)
    clear bF bG bG' frF xwE HFwE HBE HSE
    go_wp2_with fail
    try rw [hWG]
    clear hWG
    refine (eqFR HFhG.out HFwG.out (by omega)).mono ?_
    rintro e wH ⟨rfl, bH⟩
    have HBH := hid (keepS HBG.out bH)
    clear bH
    go_wp2_with fail
    go_ret
    exact ⟨rfl, HBH.out⟩
  · go_enter Tryd.func3, Tryd.ntmps3
    go_wp2_with fail
    go_ret
    exact ⟨rfl, Below.refl _ _⟩

abbrev sE : ByteArray := { data := #[116, 104, 101, 32, 98, 121, 116, 101, 115, 32, 101, 110, 100, 32, 116, 111, 111, 32, 101, 97, 114, 108, 121] }
abbrev sT : ByteArray := { data := #[116, 104, 101, 32, 116, 101, 110, 116, 104, 32, 98, 121, 116, 101, 32, 105, 115, 32, 97, 98, 111, 118, 101, 32, 49] }
abbrev sS : ByteArray := { data := #[116, 104, 101, 32, 118, 97, 114, 105, 110, 116, 32, 99, 111, 117, 108, 100, 32, 98, 101, 32, 115, 104, 111, 114, 116, 101, 114] }
abbrev sM : ByteArray := { data := #[97, 32, 110, 117, 109, 98, 101, 114, 32, 105, 115, 32, 97, 98, 111, 118, 101, 32, 105, 116, 115, 32, 108, 105, 109, 105, 116] }
abbrev sO : ByteArray := { data := #[111, 117, 116, 32, 111, 102, 32, 111, 114, 100, 101, 114] }
abbrev sN : ByteArray := { data := #[97, 32, 114, 101, 112, 108, 105, 99, 97, 32, 104, 97, 115, 32, 110, 111, 32, 114, 117, 110, 115] }
noncomputable def low : Nat := (World.holding Tryd.prog default ⟨#[], #[], []⟩).heap.size
def setAt (h : Array Obj) (g : Nat) (v : Value) : Array Obj := h.modify g fun
  | .cells _ t frozen => .cells #[v] t frozen
  | o => o
noncomputable def laidWorld (os : Os) : World :=
  let w0 := World.holding Tryd.prog os ⟨#[.cells #[.string sE] 207, .cells #[.string sT] 207, .cells #[.string sS] 207, .cells #[.string sM] 207, .cells #[.string sO] 207, .cells #[.string sN] 207], #[], []⟩
  { w0 with heap := setAt (setAt (setAt (setAt (setAt (setAt (setAt w0.heap 0 (.iface 139 (.agg #[.pointer (some ⟨7, 56, none⟩)]))) 3 (.iface 186 (.pointer (some ⟨low, 0, none⟩)))) 5 (.iface 186 (.pointer (some ⟨low + 1, 0, none⟩)))) 6 (.iface 186 (.pointer (some ⟨low + 2, 0, none⟩)))) 1 (.iface 186 (.pointer (some ⟨low + 3, 0, none⟩)))) 2 (.iface 186 (.pointer (some ⟨low + 4, 0, none⟩)))) 4 (.iface 186 (.pointer (some ⟨low + 5, 0, none⟩))) }
theorem laid_met (os : Os) (args : Array Value) : laidMetH Tryd.prog Rows.fnExactGetContextRow.laid ((laidWorld os).forCall (fun _ _ => 0) ⟨#[], args, []⟩).memory :=
  laidMetH_of_parts (laidMet_of_run' 8 (by kernel_rfl) (by kernel_rfl)) (by kernel_rfl)
set_option maxRecDepth 100000 in
theorem contract (H : Type) (enc : TypeId × Value → H) (W : World) (base : Nat) (args : Array Value) (ds gs : List (DataW H)) (before : List MemPlace)
    (hval0 : ∀ (j : Nat) t v, Tryd.f3.params[j]? = some t → args[j]? = some v → Value.okWide Tryd.prog W .any base t v)
    (hW : DataW.Whole enc Tryd.prog Tryd.f3.params.toList Rows.fnExactGetContextSpec.vars false W args.toList ds gs before) (hL : laidMetH Tryd.prog Rows.fnExactGetContextRow.laid W) :
    Calls Tryd.prog 3 args W fun e W' => ∃ v, e = .returned v ∧ Rows.fnExactGetContextSpec.post enc Tryd.prog Tryd.f3 false true false false W args v W' := by
  have hval : ∀ (j : Nat) t v, Tryd.f3.params[j]? = some t → args[j]? = some v → Value.okWide Tryd.prog W .any base t v := hval0
  have hW' := hW
  obtain ⟨p, q, hA0, hV0, rfl, hfz, hnd⟩ := hW
  have hA : DataW.TrodAll enc Tryd.prog W 0 (fun _ => true) true Tryd.f3.params.toList args.toList ds p := hA0
  have hV : DataW.TrodVars enc Tryd.prog W (fun _ => true) ["loop.example/s02772/impl.errLimit", "loop.example/s02772/impl.errEnds", "loop.example/s02772/impl.errTenth", "loop.example/s02772/impl.errShorter", "loop.example/s02772/impl.errOrder", "loop.example/s02772/impl.errNoRuns"] gs q := hV0
  rw [Tryd.params3] at hA hval
  obtain ⟨v0, vs0, d0, ds0, p0, q0, hargs, rfl, rfl, h0, r0⟩ := trodAll_cons hA
  obtain ⟨v1, vs1, d1, ds1, p1, q1, rfl, rfl, rfl, h1, r1⟩ := trodAll_cons r0
  obtain ⟨rfl, rfl, rfl⟩ := trodAll_nil r1
  obtain rfl : args = #[v0, v1] := by cases args; simp_all
  obtain ⟨aT, aS, aE, aM, aO, aN, hE, vE, vT, vS, vM, vO, vN⟩ := errs_of_laidC hL
  have vr : ∀ {X : World}, Below W.heap.size W X → ∀ sp : Nat → Bool, DataW.TrodVars enc Tryd.prog X sp ["loop.example/s02772/impl.errLimit", "loop.example/s02772/impl.errEnds", "loop.example/s02772/impl.errTenth", "loop.example/s02772/impl.errShorter", "loop.example/s02772/impl.errOrder", "loop.example/s02772/impl.errNoRuns"] [tok enc (.iface 186 (.pointer (some aM))), tok enc (.iface 186 (.pointer (some aE))), tok enc (.iface 186 (.pointer (some aT))), tok enc (.iface 186 (.pointer (some aS))), tok enc (.iface 186 (.pointer (some aO))), tok enc (.iface 186 (.pointer (some aN)))] [.cell 1 0, .cell 3 0, .cell 5 0, .cell 6 0, .cell 2 0, .cell 4 0] :=
    fun hb sp => vars_read6 enc Tryd.underlying56 La.gM La.tM (var?_below vM hb) trivial La.gE La.tE (var?_below vE hb) trivial La.gT La.tT (var?_below vT hb) trivial La.gS La.tS (var?_below vS hb) trivial La.gO La.tO (var?_below vO hb) trivial La.gN La.tN (var?_below vN hb) trivial sp
  obtain ⟨rfl, rfl⟩ := hV.unique (vr (Below.refl _ _) _)
  have k0 := h0
  have lt0 : ∀ x ∈ p0, x.block < W.heap.size := by obtain ⟨m, hm⟩ := k0; exact DataW.trod_lt m _ _ _ hm
  obtain ⟨a, n, c, f, rfl, hn, s, hf⟩ := openBytes (hval 0 22 v0 rfl rfl) h0
  obtain ⟨x, rfl, rfl, rfl, hx⟩ := open_int Tryd.underlying3 (hval 1 3 v1 rfl rfl) h1
  clear hA0 hV0 hval0
  refine (walk W a n c f x aT aS aE aE hn s hf hx hE).mono fun e W' ⟨he, bel⟩ => ?_
  subst he
  exact ⟨_, rfl, _, _, _, [], _, _, hW', trodAll_mk1 (shut_bool Tryd.underlying4 _), (trodAll_cons_mk (Below.trod La.laidOut (by kernel_rfl) (of_decide_eq_true (by kernel_rfl)) k0 bel lt0) (trodAll_cons_mk (shut_int Tryd.underlying3 hx) trodAll_mk0)), vr bel _, bel.frame _, fun h => by cases h⟩

set_option maxRecDepth 100000 in
theorem lifted (os : Os) (started : os.Started) (H : Type) (enc : TypeId × Value → H) (F : Stop.Interp) :
    ReturnsInHanded {} Tryd.checked os 3 .any ((OpenSpec.ofChange Rows.fnExactGetContextSpec).preRow enc Tryd.prog Tryd.f3 Rows.fnExactGetContextRow.domain false Rows.fnExactGetContextRow.laid) (((OpenSpec.ofChange Rows.fnExactGetContextSpec).at F).post enc Tryd.prog Tryd.f3 false true false false) := by
  refine returnsInHanded_of_row (C := Tryd.checked) (s := OpenSpec.ofChange Rows.fnExactGetContextSpec) La.own started (by kernel_rfl) Tryd.func3
    (witness_row_at (enc := enc) (C := Tryd.checked) false (laidWorld os) #[.slice none 0 0, .int .i64 0] rfl (by kernel_rfl) (by kernel_rfl) (by kernel_rfl)
      (OpenSpec.preRow_of_B rfl 8 (by kernel_rfl) (by kernel_rfl) (laid_met os _))) ?_
  intro W base args ds gs before hval hW _ _ _ hL _ _
  exact contract H enc W base args ds gs before hval hW hL

theorem said : Rows.FnExactGetContextSaid :=
  OpenClaim.holds_of_cond 3 Tryd.f3 rfl rfl rfl rfl rfl rfl rfl ⟨rfl, rfl, rfl, rfl, rfl⟩ rfl rfl rfl rfl rfl (by kernel_rfl) Tryd.func3 (by kernel_rfl)
    (of_decide_eq_true (by kernel_rfl)) (by unfold Func.isWrapper; first | (rw [if_pos (by decide +kernel)]; kernel_rfl) | (rw [if_neg (by decide +kernel)]; exact ⟨rfl, rfl⟩))
    (fun os started H enc _ F => by rw [OpenClaim.pre_eq_preRow]; exact lifted os started H enc F)

theorem plain (f : FuncId) (fn : Func) (hf : Tryd.pinned.checked.prog.funcNamed "loop.example/s02772/laws.FnExactGetContext" = some f) (hfn : Tryd.pinned.checked.prog.funcs[f]? = some fn) :
    true = Tryd.pinned.checked.prog.looks [] ∧ ∀ (j : Nat) t, fn.params[j]? = some t → Tryd.pinned.checked.prog.wantsStandIn t = false := by
  obtain rfl : f = 3 := Option.some.inj ((show Tryd.prog.funcNamed "loop.example/s02772/laws.FnExactGetContext" = some 3 by kernel_rfl).symm.trans hf) |>.symm
  obtain rfl : fn = Tryd.f3 := (Option.some.inj (Tryd.func3.symm.trans hfn)).symm
  refine ⟨by kernel_rfl, fun j t ht => ?_⟩
  rw [Tryd.params3] at ht
  have hm := Array.mem_of_getElem? ht
  simp at hm
  rcases hm with rfl | rfl
  · exact (show Tryd.prog.wantsStandIn 22 = false by kernel_rfl)
  · exact (show Tryd.prog.wantsStandIn 3 = false by kernel_rfl)
end Go.Proofs.YtbimcammjohaoadDoor.fnExactGetContext

namespace Go.Proofs.YtbimcammjohaoadDoor
theorem getContextCard : Rows.FnExactGetContextCardSaid :=
  Claim7.holds_tied_plain_at .later [] _ _ _ _ fnExactGetContext.said (fun _ h => by cases h) (by kernel_rfl) (fun _ h => by cases h) fnExactGetContext_row_tie rfl ⟨rfl, rfl⟩ (by kernel_rfl) rfl fnExactGetContext.plain (by kernel_rfl)
#print axioms getContextCard
end Go.Proofs.YtbimcammjohaoadDoor
