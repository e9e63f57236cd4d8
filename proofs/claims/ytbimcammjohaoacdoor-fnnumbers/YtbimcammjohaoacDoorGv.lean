import Derived.Test.YtbimcammjohaoacDoorGt
namespace Go.Proofs.YtbimcammjohaoacDoor
open Go.ChangeShapes Go.WideShapes Go.ChangeAt Go.RowKit
set_option linter.unusedVariables false
set_option linter.unusedSimpArgs false

inductive TL (f : Nat → Int) (n m : Nat) (x most : Int) (cb : Nat) (a : Option Addr) (c : Nat) (aT aS aL aE : Addr) (w' : World) : Value → Value → Prop
  | bad (pb : Nat) (y : Int) (h : (gX f n m x).2.2 ≠ 0) (hP : Plc w' pb x (.iface 136 (.pointer (some (adr aT aS aE (gX f n m x).2.2))))) (hc : Cur w' cb a n c y) : TL f n m x most cb a c aT aS aL aE w' (.int .i64 0) (.iface 85 (.pointer (some ⟨pb, 0, none⟩)))
  | long (y : Int) (h : (gX f n m x).2.2 = 0) (h1 : most < 0 ∨ most < (gX f n m x).1) (hc : Cur w' cb a n c y) : TL f n m x most cb a c aT aS aL aE w' (.int .i64 0) (.iface 136 (.pointer (some aL)))
  | ends (y : Int) (h : (gX f n m x).2.2 = 0) (h1 : ¬ (most < 0 ∨ most < (gX f n m x).1)) (h2 : (n : Int) - (gX f n m x).2.1 < (gX f n m x).1) (hc : Cur w' cb a n c y) : TL f n m x most cb a c aT aS aL aE w' (.int .i64 0) (.iface 136 (.pointer (some aE)))
  | ok (h : (gX f n m x).2.2 = 0) (h1 : ¬ (most < 0 ∨ most < (gX f n m x).1)) (h2 : ¬ (n : Int) - (gX f n m x).2.1 < (gX f n m x).1) (hc : Cur w' cb a n c (gX f n m x).2.1) : TL f n m x most cb a c aT aS aL aE w' (.int .i64 ((gX f n m x).1 : Int)) .nilIface

set_option maxRecDepth 100000 in
set_option maxHeartbeats 1000000 in
theorem textLen (cb B : Nat) (a : Option Addr) (n c m : Nat) (x most : Int) (f : Nat → Int) (aT aS aL aE : Addr) (w : World) (hn : n ≤ 1048576) (hf : Byt f) (h : Seg w a n f) (hcur : Cur w cb a n c x) (hm : Cnt f n x.toNat m) (hE : Errs w B aT aS aL aE) (hBc : B ≤ cb) (hne : ∀ y, a = some y → y.block ≠ cb) (hx : (Lit.int .i64 x).wf = true) (hmo : (Lit.int .i64 most).wf = true) :
    Calls Tryd.prog 45 #[.pointer (some ⟨cb, 0, none⟩), .int .i64 most] w fun e w' => ∃ v u, e = .returned (.tuple #[v, u]) ∧ w.grownBy w' (some cb) ∧ TL f n m x most cb a c aT aS aL aE w' v u := by
  have bx := bounds_i64 hx
  have bm := bounds_i64 hmo
  have HG := hid (gX_bounds hm hf hn bx.1 bx.2)
  have HU := hid (uvX cb B a n c m x f aT aS aL aE w hn hf h hcur hm hE hBc hne)
  have HE := hid hE
  have hcl := hcur.lt
  have HTbad := hid (fun w' => @TL.bad f n m x most cb a c aT aS aL aE w')
  have HTlong := hid (fun w' => @TL.long f n m x most cb a c aT aS aL aE w')
  have HTends := hid (fun w' => @TL.ends f n m x most cb a c aT aS aL aE w')
  have HTok := hid (fun w' => @TL.ok f n m x most cb a c aT aS aL aE w')
  obtain ⟨T, hT⟩ : ∃ T, TL f n m x most cb a c aT aS aL aE = T := ⟨_, rfl⟩
  rw [hT] at HTbad HTlong HTends HTok
  rw [hT]
  clear hT hm hx hmo h hcur hE hf
  obtain ⟨V, hV⟩ : ∃ V, (gX f n m x).1 = V := ⟨_, rfl⟩
  obtain ⟨A, hA⟩ : ∃ A, (gX f n m x).2.1 = A := ⟨_, rfl⟩
  obtain ⟨C, hC⟩ : ∃ C, (gX f n m x).2.2 = C := ⟨_, rfl⟩
  rw [hV, hA, hC] at HG HU HTends HTok
  rw [hV, hC] at HTlong
  rw [hC] at HTbad
  clear hV hA hC
  go_enter Tryd.func45, Tryd.ntmps45
  go_wp2_with fail
  refine HU.out.mono ?_
  rintro e w1 ⟨g1, hres⟩
  have HGr := hid g1
  have HE1 := hid (HE.out.below ((Below.refl B w).grown g1 (by omega) (fun k hk => by injection hk with hk; omega)))
  clear g1 HU HE
  rcases hres with ⟨h0, rfl, cu⟩ | ⟨h0, pb, rfl, hpb, hP, y, cu⟩
  · subst h0
    obtain ⟨b1, _, b3, _⟩ := HG.out
    obtain ⟨b4, b5⟩ := b3 rfl
    clear b3 HTbad
    obtain ⟨q, rfl⟩ : ∃ q : Nat, A = (q : Int) := ⟨A.toNat, by omega⟩
    have HCu := hid cu
    obtain ⟨k0, k1, k2⟩ := cu
    by_cases h1 : most < 0
    · have HR := hid (fun k => HTlong.out (w1.drewN k) (q : Int) rfl (.inl h1) HCu.out)
      have gL := HE1.out.gL
      clear HTlong HTends HTok k0 k1 k2
      go_wp2_with fail
      go_quiet (fail)
      go_wp2_with fail
      go_ret2
      exact ⟨_, _, rfl, HGr.out.andThen (grown_drewN _ _ _) (fun j hj => .inr hj), HR.out _⟩
    obtain ⟨M, rfl⟩ : ∃ M : Nat, most = (M : Int) := ⟨most.toNat, by omega⟩
    have hwm : IntKind.u64.wrap (M : Int) = (M : Int) := by rw [IntKind.wrap_u64]; omega
    have hd1 : decide ((M : Int) < 0) = false := by simp
    by_cases h2 : M < V
    · have HR := hid (fun k => HTlong.out (w1.drewN k) (q : Int) rfl (.inr (by omega)) HCu.out)
      have gL := HE1.out.gL
      clear HTlong HTends HTok k0 k1 k2
      go_wp2_with fail
      go_quiet (fail)
      go_wp2_with fail
      go_ret2
      exact ⟨_, _, rfl, HGr.out.andThen (grown_drewN _ _ _) (fun j hj => .inr hj), HR.out _⟩
    obtain ⟨r, hr⟩ : ∃ r : Nat, (r : Int) = (n : Int) - (q : Int) := ⟨n - q, by omega⟩
    have hwr : IntKind.u64.wrap (IntKind.i64.wrap ((n : Int) - (q : Int))) = (r : Int) := by rw [wrapIn _ (by omega) (by omega), IntKind.wrap_u64]; omega
    have hwr2 : IntKind.u64.wrap ((n : Int) - (q : Int)) = (r : Int) := by rw [IntKind.wrap_u64]; omega
    by_cases h3 : r < V
    · have HR := hid (fun k => HTends.out (w1.drewN k) (q : Int) rfl (by omega) (by omega) HCu.out)
      have gE := HE1.out.gE
      clear HTlong HTends HTok
      go_wp2_with fail
      go_quiet (fail)
      go_wp2_with fail
      go_quiet (fail)
      go_wp2_with fail
      go_ret2
      simp only [World.drewN_drewN]
      exact ⟨_, _, rfl, HGr.out.andThen (grown_drewN _ _ _) (fun j hj => .inr hj), HR.out _⟩
    have HR := hid (fun k => HTok.out (w1.drewN k) rfl (by omega) (by omega) HCu.out)
    have hwV : IntKind.i64.wrap (V : Int) = (V : Int) := wrapIn _ (by omega) (by omega)
    clear HTlong HTends HTok
    go_wp2_with fail
    go_quiet (fail)
    go_wp2_with fail
    go_ret2
    exact ⟨_, _, rfl, HGr.out.andThen (grown_drewN _ _ _) (fun j hj => .inr hj), HR.out _⟩
  · have HR := hid (HTbad.out w1 pb y h0 hP cu)
    clear HTbad HTlong HTends HTok hP cu
    go_wp2_with fail
    go_ret2
    exact ⟨_, _, rfl, HGr.out, HR.out⟩
end Go.Proofs.YtbimcammjohaoacDoor
