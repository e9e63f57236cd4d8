import Derived.Test.YtbimcammjohaoacMrg
import Derived.Maps.RangeWalk
import Derived.Lib.SlMapMerge
namespace Go.Proofs.Ytbimcammjohaoac
open Go.ChangeShapes Go.WideShapes Go.ChangeAt Go.RowKit Go.Maps Go.Sort
set_option linter.unusedVariables false
set_option linter.unusedSimpArgs false

theorem wpList_next_raw {P : Program} (w : World) {ops : Array Oper} {rest : List Oper} {o : Oper} {a : Act} {Q : Exit → Act → World → Prop} (hg : o.guard = none) (it : Operand) (hop : o.op = Op.next it false) (k : TypeId) (K : Keyed P k) (hk : P.underlying k = some (.int .i64))
    (b r n : Nat) (D : DataW Value) (left : Lit → Bool) (cnt : Nat) (hit : a.eval it = .pointer (some ⟨r, 0, none⟩)) (h : w.ranges P k rawR b r n D left cnt)
    (hDone : (∀ kl, left kl = false) → wpList P ops Q rest (a.put o.dst (.tuple #[.bool false])) w)
    (hMore : ∀ (x : Int) (va : Option Addr) (vn vc : Nat) (w' : World) (cnt' : Nat), (Lit.int .i64 x).wf = true → left (kI x) = true → (∀ zd, D.atKey (kI x) zd = .held (.slice va vn vc)) → w'.ranges P k rawR b r n D (fun z => left z && !z.sameKey (kI x)) cnt' → cnt' < cnt →
      w.grownBy w' (some r) → w'.heap.size = w.heap.size → (Instr.entry (.pointer (some ⟨r, 0, none⟩))).run P w' = .ok (.tuple #[.int .i64 x, .slice va vn vc]) w' → wpList P ops Q rest (a.put o.dst (.tuple #[.bool true, .int .i64 x, .slice va vn vc])) w') :
    wpList P ops Q (o :: rest) a w :=
  wpList_next_ranges w hg it hop k K rawR (Value.int .i64) (fun p : Option Addr × Nat × Nat => .slice p.1 p.2.1 p.2.2) (fun key kl hkey => by obtain ⟨x, rfl, _⟩ := Maps.keyOf_int_inv hk hkey; exact ⟨x, rfl⟩) (fun v y hv => by obtain ⟨_, a, n, c, rfl⟩ := rawR_inv (d := y.1) (ps := y.2) hv; exact ⟨(a, n, c), rfl⟩)
    b r n D left cnt hit h (fun _ hl => hDone hl) (fun x p kl y w' cnt' hkey hlk hv hat hrg hlt hgr hsz hen => by
      obtain ⟨x', ex, rfl, hwx⟩ := Maps.keyOf_int_inv hk hkey
      cases ex
      have hd := (rawR_inv (d := y.1) (ps := y.2) hv).1
      exact hMore x p.1 p.2.1 p.2.2 w' cnt' hwx hlk (fun zd => by rw [← hd]; exact hat zd) hrg hlt hgr hsz hen)

theorem sameKey_kI (x y : Int) : (kI x).sameKey (kI y) = decide (x = y) := by
  rw [Bool.eq_iff_iff, WideAt.sameKey_iff (show WideAt.IsKeyLit (kI y) from trivial), decide_eq_true_iff]
  constructor
  · intro h; unfold kI at h; injection h
  · intro h; rw [h]

theorem copyM (bd bs nd ns : Nat) (Dd Ds : DataW Value) (w : World) (hd : w.ownsMap Try.prog 3 rawR bd nd Dd) (hs : w.ownsMap Try.prog 3 rawR bs ns Ds) (hne : bd ≠ bs) (hroom : nd + Maps.size Ds ≤ maxLen) :
    Calls Try.prog 56 #[.map (some bd), .map (some bs)] w fun e w' => e = .returned (.tuple #[]) ∧ (∃ D, w'.ownsMap Try.prog 3 rawR bd (nd + Maps.size Ds) D ∧ Merged D Dd Ds (fun _ => false)) ∧ w.grownBy w' (some bd) := by
  have hbd := hd.lt
  have hbs := hs.lt
  go_enter Try.func56, Try.ntmps56
  go_wp2_with (at_range; refine wpList_range_own _ rfl _ 69 rfl 3 88 (int_keyed Try.underlying3) Try.underlying69 rawR bs ns Ds rfl hs ?_; intro w0 hrg0 hg0 hs0)
  go_frame
  go_loopw [8] (fun _ wr => ∃ (left : Lit → Bool) (cnt : Nat) (Dout : DataW Value), wr.ranges Try.prog 3 rawR bs w.heap.size ns Ds left cnt ∧ cnt ≤ Maps.size Ds ∧
      wr.ownsMap Try.prog 3 rawR bd (nd + (Maps.size Ds - cnt)) Dout ∧ Merged Dout Dd Ds left ∧ w.grownBy wr (some bd))
    (fun _ wr => wr.rangeLeft bs w.heap.size)
  case atStart =>
    exact ⟨_, _, Dd, hrg0, Nat.le_refl _, (hd.kept hg0 (by simp)).mono (by omega), merged_start Dd Ds, hg0.but _⟩
  case round =>
    obtain ⟨left, cnt, Dout, hrg, hcs, hout, hM, hgw⟩ := hrel
    go_wp2_with (at_next; refine wpList_next_raw _ rfl _ rfl 3 (int_keyed Try.underlying3) Try.underlying3 bs w.heap.size ns _ _ _ rfl hrg ?_ ?_)
    · intro hl0
      have hM' : Merged Dout Dd Ds (fun _ => false) := by
        have e : left = fun _ => false := funext hl0
        rw [← e]; exact hM
      have H := hid (And.intro hout (And.intro hM' hgw))
      clear hM hM' hgw hout hrg
      go_wp2
      go_end0
      exact ⟨rfl, ⟨Dout, H.out.1.mono (by omega), H.out.2.1⟩, H.out.2.2⟩
    · intro x va vn vc w1 cnt1 hwx hlx hat hrg1 hlt hg1 hs1 hen
      have hout1 := hout.kept hg1 (fun e => by have := Option.some.inj e; omega)
      have hkey : keyOf Try.prog 3 (.int .i64 x) = some (kI x) := keyOf_int_mk Try.underlying3 hwx
      go_wp2_with (at_mapUpdate; refine wpList_mapUpdate_own _ rfl _ _ _ 69 rfl 3 88 (int_keyed Try.underlying3) Try.underlying69 rawR bd _ _ rfl hout1 (by omega) _ _ _ rfl rfl hkey (.held (.slice va vn vc)) [] rfl ?_; intro w2 hout2 hg2; go_frame)
      have hrg2 := hrg1.kept hg2 (fun e => hne (Option.some.inj e).symm) (fun e => by have := Option.some.inj e; omega)
      go_roundw
      case rel =>
        exact ⟨_, cnt1, _, hrg2, by omega, hout2.mono (by omega), merged_step hM hout.isMap (show WideAt.IsKeyLit (kI x) from trivial) hat, (hgw.andThen hg1 (fun j hj => .inl (by cases hj; exact Nat.le_refl _))).andThen hg2 (fun j hj => .inr hj)⟩
      case measure => rw [hrg2.left_eq, hrg.left_eq]; exact hlt
end Go.Proofs.Ytbimcammjohaoac
