import Derived.Test.YtbimcammjohaoabHas2
import Derived.Maps.RangeWalk
namespace Go.Proofs.Ytbimcammjohaoab
open Go.ChangeShapes Go.WideShapes Go.ChangeAt Go.RowKit Go.Maps
set_option linter.unusedVariables false
set_option linter.unusedSimpArgs false

theorem wpList_next_raw {P : Program} (w : World) {ops : Array Oper} {rest : List Oper} {o : Oper} {a : Act} {Q : Exit → Act → World → Prop} (hg : o.guard = none) (it : Operand) (hop : o.op = Op.next it false) (k : TypeId) (K : Keyed P k) (hk : P.underlying k = some (.int .i64))
    (b r n : Nat) (D : DataW Value) (left : Lit → Bool) (cnt : Nat) (hit : a.eval it = .pointer (some ⟨r, 0, none⟩)) (h : w.ranges P k rawR b r n D left cnt)
    (hDone : (∀ kl, left kl = false) → wpList P ops Q rest (a.put o.dst (.tuple #[.bool false])) w)
    (hMore : ∀ (x : Int) (va : Option Addr) (vn vc : Nat) (w' : World) (cnt' : Nat), (Lit.int .i64 x).wf = true → left (kI x) = true → (∀ zd, D.atKey (kI x) zd = .held (.slice va vn vc)) → w'.ranges P k rawR b r n D (fun z => left z && !z.sameKey (kI x)) cnt' → cnt' < cnt →
      w.grownBy w' (some r) → w'.heap.size = w.heap.size → (Instr.entry (.pointer (some ⟨r, 0, none⟩))).run P w' = .ok (.tuple #[.int .i64 x, .slice va vn vc]) w' → wpList P ops Q rest (a.put o.dst (.tuple #[.bool true, .int .i64 x, .slice va vn vc])) w') :
    wpList P ops Q (o :: rest) a w :=
  wpList_next_ranges w hg it hop k K rawR (Value.int .i64) (fun p : Option Addr × Nat × Nat => .slice p.1 p.2.1 p.2.2) (fun key kl hkey => by obtain ⟨x, rfl, _⟩ := Maps.keyOf_int_inv hk hkey; exact ⟨x, rfl⟩) (fun v y hv => by obtain ⟨_, a, n, c, rfl⟩ := rawR_inv (d := y.1) (ps := y.2) hv; exact ⟨(a, n, c), rfl⟩)
    b r n D left cnt hit h (fun _ hl => hDone hl) (fun x p kl y w' cnt' hkey hlk hv hat hrg hlt hgr hsz hen => by
      obtain ⟨x', ex, rfl, hwx⟩ := Maps.keyOf_int_inv hk hkey
      cases ex
      have hd := (rawR_inv (d := y.1) (ps := y.2) hv).1
      exact hMore x p.1 p.2.1 p.2.2 w' cnt' hwx hlk (fun zd => by rw [← hd]; exact hat zd) hrg hlt hgr hsz hen)

theorem sameKey_kI (x y : Int) : (kI x).sameKey (kI y) = decide (x = y) := by
  rw [Bool.eq_iff_iff, WideAt.sameKey_iff (show WideAt.IsKeyLit (kI y) from trivial), decide_eq_true_iff]
  constructor
  · intro h; unfold kI at h; injection h
  · intro h; rw [h]

def allIn (La Lb : Int → List (Int × Int)) (r : Int) : Bool := (Lb r).all fun p => inB (La r) p.1 p.2

theorem GrpAt.grown {w w1 : World} {bm n rr : Nat} {D : DataW Value} {G : Int → Value} {L : Int → List (Int × Int)} (h : GrpAt w bm n D G L) (hg : w.grownBy w1 (some rr)) (hr : bm ≠ rr) (hro : ∀ r g, (G r).ownBlock = some g → g ≠ rr) : GrpAt w1 bm n D G L :=
  ⟨h.own.kept hg (fun e => hr (by injection e)), h.at', h.has', fun r => (h.rows r).kept hg (by
    cases e : (G r).ownBlock with
    | none => exact .inl rfl
    | some g => exact .inr (fun e2 => hro r g e (by injection e2))), h.apart⟩
end Go.Proofs.Ytbimcammjohaoab
