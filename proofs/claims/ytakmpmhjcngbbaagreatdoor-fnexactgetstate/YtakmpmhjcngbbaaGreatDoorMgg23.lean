import Derived.Test.YtakmpmhjcngbbaaGreatDoorMgg22
import Derived.Test.YtakmpmhjcngbbaaGreatDoorMgg16
set_option linter.unusedVariables false
set_option linter.unusedSimpArgs false
set_option maxRecDepth 100000
set_option maxHeartbeats 40000000
namespace Go.Proofs.YtakmpmhjcngbbaaGreatDoor
structure LGd (K : Int → Int → Bool) (kind : Int) (p : List ByteArray) (z : Lf) : Prop where
  p : z.p = p
  fl : z.fl = decide (kind = 2)
  k : K z.r z.q = true
  v : z.v.size ≤ 200
  e : kind = 2 → z.v = ByteArray.empty
def KOk (K : Int → Int → Bool) : Prop := ∀ r q, K r q = true → 0 ≤ r ∧ r ≤ 7 ∧ 1 ≤ q ∧ q ≤ 1000000000
section
variable {f : Nat → Int} {n : Nat} {K : Int → Int → Bool}
theorem rdLf_iff (hf : Byt f) (hK : KOk K) {kind : Int} (hk : kind = 1 ∨ kind = 2) {p : List ByteArray} {before : Dt} {acc : List Lf} {x : Nat} {z : Lf} {x' : Nat} :
    rdLf f n K kind p before acc x = some (z, x') ↔ LGd K kind p z ∧ cmpDt before (z.r, z.q) < 0 ∧ (∀ y ∈ acc, ¬ (y.r = z.r ∧ y.q = z.q)) ∧ acc.length ≠ 1000 ∧ At f x (lfB kind z) ∧ x' = x + (lfB kind z).length ∧ x' ≤ n := by
  unfold rdLf lfB
  constructor
  · intro h
    obtain ⟨⟨r, x1⟩, hr, h⟩ := bind_some_iff.1 h
    obtain ⟨⟨q, x2⟩, hq, h⟩ := bind_some_iff.1 h
    simp only at h hq
    obtain ⟨r1, r2, r3, r4, r5⟩ := (rd_iff hf).1 hr
    obtain ⟨q1, q2, q3, q4, q5⟩ := (rd_iff hf).1 hq
    split at h
    · rename_i hy
      obtain ⟨y1, y2, y3, y4⟩ := yes_iff.1 hy
      rcases hk with rfl | rfl
      · rw [if_neg (by decide)] at h
        obtain ⟨⟨t, x3⟩, ht, h⟩ := bind_some_iff.1 h
        simp only [Option.some.injEq, Prod.mk.injEq] at h
        obtain ⟨rfl, rfl⟩ := h
        obtain ⟨t1, t2, t3, t4⟩ := (rdTx_iff hf (by decide)).1 ht
        refine ⟨⟨rfl, by simp, y2, by simp only; omega, fun h => by omega⟩, y1, y3, y4, ?_, ?_, t4⟩
        · simp only [Int.toNat_natCast, if_true]
          rw [At.app, At.app]
          exact ⟨r3, by rw [← r4]; exact q3, by rw [← r4, ← q4]; exact t2⟩
        · simp only [Int.toNat_natCast, if_true, List.length_append]
          omega
      · rw [if_pos rfl] at h
        simp only [Option.some.injEq, Prod.mk.injEq] at h
        obtain ⟨rfl, rfl⟩ := h
        refine ⟨⟨rfl, by simp, y2, by simp, fun _ => rfl⟩, y1, y3, y4, ?_, ?_, q5⟩
        · simp only [Int.toNat_natCast]
          rw [At.app, At.app]
          exact ⟨r3, by rw [← r4]; exact q3, by rw [if_neg (by decide)]; intro i hi; simp at hi⟩
        · simp only [Int.toNat_natCast, List.length_append]
          rw [if_neg (by decide)]
          simp; omega
    · cases h
  · rintro ⟨⟨e1, e2, e3, e4, e5⟩, y1, y3, y4, hat, hx, hn⟩
    obtain ⟨k1, k2, k3, k4⟩ := hK _ _ e3
    rw [At.app, At.app] at hat
    rw [List.length_append, List.length_append] at hx
    obtain ⟨a1, a2, a3⟩ := hat
    have c1 : ((z.r.toNat : Nat) : Int) = z.r := by omega
    have c2 : ((z.q.toNat : Nat) : Int) = z.q := by omega
    have hr : rd f n x 7 = some (z.r.toNat, x + (uvF 9 z.r.toNat).length) := (rd_iff hf).2 ⟨by omega, by omega, a1, rfl, by omega⟩
    have hq : rd f n (x + (uvF 9 z.r.toNat).length) 1000000000 = some (z.q.toNat, x + (uvF 9 z.r.toNat).length + (uvF 9 z.q.toNat).length) := (rd_iff hf).2 ⟨by omega, by omega, a2, rfl, by omega⟩
    rw [hr]
    simp only [Option.bind_some]
    rw [hq]
    simp only [Option.bind_some, c1, c2]
    rw [if_pos (yes_t ⟨y1, e3, y3, y4⟩)]
    rcases hk with rfl | rfl
    · rw [if_neg (by decide)]
      rw [if_pos rfl] at a3 hx
      have ht : rdTx f n (x + (uvF 9 z.r.toNat).length + (uvF 9 z.q.toNat).length) 200 = some (z.v, x') := (rdTx_iff hf (by decide)).2 ⟨by omega, a3, by omega, hn⟩
      rw [ht]
      simp only [Option.bind_some, Option.some.injEq, Prod.mk.injEq, and_true]
      rw [← e1]
      have : z.fl = false := by rw [e2]; decide
      rw [← this]
    · rw [if_pos rfl]
      rw [if_neg (by decide)] at hx
      simp only [Option.some.injEq, Prod.mk.injEq]
      refine ⟨?_, by simp at hx; omega⟩
      rw [← e1, ← e5 rfl]
      have : z.fl = true := by rw [e2]; decide
      rw [← this]
def OkB (K : Int → Int → Bool) (kind : Int) (p : List ByteArray) : Dt → List Lf → List Lf → Prop
  | _, _, [] => True
  | before, acc, z :: B => LGd K kind p z ∧ cmpDt before (z.r, z.q) < 0 ∧ (∀ y ∈ acc, ¬ (y.r = z.r ∧ y.q = z.q)) ∧ acc.length ≠ 1000 ∧ OkB K kind p (z.r, z.q) (acc ++ [z]) B
theorem rdLs_iff (hf : Byt f) (hK : KOk K) {kind : Int} (hk : kind = 1 ∨ kind = 2) {p : List ByteArray} : ∀ (k : Nat) {before : Dt} {acc acc' : List Lf} {x x' : Nat},
    rdLs f n K kind p k before acc x = some (acc', x') ∧ x ≤ n ↔ ∃ B, acc' = acc ++ B ∧ B.length = k ∧ OkB K kind p before acc B ∧ At f x (B.flatMap (lfB kind)) ∧ x' = x + (B.flatMap (lfB kind)).length ∧ x' ≤ n
  | 0, before, acc, acc', x, x' => by
    unfold rdLs
    constructor
    · rintro ⟨h, hx⟩
      simp only [Option.some.injEq, Prod.mk.injEq] at h
      obtain ⟨rfl, rfl⟩ := h
      exact ⟨[], by simp, rfl, trivial, fun i hi => by simp at hi, by simp, hx⟩
    · rintro ⟨B, rfl, hB, _, _, rfl, hn⟩
      obtain rfl := List.length_eq_zero_iff.1 hB
      simp at hn ⊢
      exact hn
  | k + 1, before, acc, acc', x, x' => by
    unfold rdLs
    constructor
    · rintro ⟨h, hx⟩
      obtain ⟨⟨z, x1⟩, hz, h⟩ := bind_some_iff.1 h
      obtain ⟨l1, l2, l3, l4, l5, l6, l7⟩ := (rdLf_iff hf hK hk).1 hz
      obtain ⟨B, b1, b2, b3, b4, b5, b6⟩ := (rdLs_iff hf hK hk k).1 ⟨h, l7⟩
      refine ⟨z :: B, by rw [b1]; simp, by simp [b2], ⟨l1, l2, l3, l4, b3⟩, ?_, ?_, b6⟩
      · rw [List.flatMap_cons, At.app]
        exact ⟨l5, by rw [← l6]; exact b4⟩
      · rw [List.flatMap_cons, List.length_append, b5, l6]; omega
    · rintro ⟨B, rfl, hB, hO, hat, hx, hn⟩
      cases B with
      | nil => simp at hB
      | cons z B =>
        obtain ⟨l1, l2, l3, l4, l5⟩ := hO
        rw [List.flatMap_cons, At.app] at hat
        rw [List.flatMap_cons, List.length_append] at hx
        have hz : rdLf f n K kind p before acc x = some (z, x + (lfB kind z).length) := (rdLf_iff hf hK hk).2 ⟨l1, l2, l3, l4, hat.1, rfl, by omega⟩
        have hr := (rdLs_iff hf hK hk k (before := (z.r, z.q)) (acc := acc ++ [z]) (acc' := acc ++ z :: B) (x := x + (lfB kind z).length) (x' := x')).2 ⟨B, by simp, by simpa using hB, l5, hat.2, by omega, hn⟩
        refine ⟨?_, by omega⟩
        rw [hz]
        exact hr.1
theorem rdKy_iff (hf : Byt f) {before y : Ky} {x x' : Nat} :
    rdKy f n before x = some (y, x') ↔ y.1.size ≠ 0 ∧ y.1.size ≤ 40 ∧ cmpK before y < 0 ∧ At f x (textInts y.1 ++ [y.2]) ∧ x' = x + (textInts y.1 ++ [y.2]).length ∧ x' ≤ n := by
  unfold rdKy
  constructor
  · intro h
    obtain ⟨⟨t, x1⟩, ht, h⟩ := bind_some_iff.1 h
    obtain ⟨t1, t2, t3, t4⟩ := (rdTx_iff hf (by decide)).1 ht
    split at h
    · rename_i hy
      obtain ⟨y1, y2, y3⟩ := yes_iff.1 hy
      simp only [Option.some.injEq, Prod.mk.injEq] at h
      obtain ⟨rfl, rfl⟩ := h
      refine ⟨y1, by simp only; omega, y3, ?_, by simp; omega, by simp only at y2; omega⟩
      rw [At.app]
      refine ⟨t2, fun i hi => ?_⟩
      have : i = 0 := by simpa using hi
      subst this
      simp [t3]
    · cases h
  · rintro ⟨h1, h2, h3, h4, h5, h6⟩
    rw [At.app] at h4
    rw [List.length_append] at h5
    have h5' : x' = x + (textInts y.1).length + 1 := by simpa [Nat.add_assoc] using h5
    have ht : rdTx f n x 40 = some (y.1, x + (textInts y.1).length) := (rdTx_iff hf (by decide)).2 ⟨by omega, h4.1, rfl, by omega⟩
    have hb : f (x + (textInts y.1).length) = y.2 := by
      have := h4.2 0 (by simp)
      simpa using this
    rw [ht]
    simp only [Option.bind_some]
    rw [hb, if_pos (yes_t ⟨h1, by omega, h3⟩), h5']
def RD (K : Int → Int → Bool) (R : List ByteArray → List Lf → List Lf → List Int → Prop) (p : List ByteArray) (y : Ky) (acc B : List Lf) (U : List Int) : Prop :=
  if y.2 = 3 then R (p ++ [y.1]) acc B U else (y.2 = 1 ∨ y.2 = 2) ∧ B ≠ [] ∧ B.length ≤ 1000 ∧ OkB K y.2 (p ++ [y.1]) (0, 0) acc B ∧ U = mB B y.2
def RK (K : Int → Int → Bool) (R : List ByteArray → List Lf → List Lf → List Int → Prop) (p : List ByteArray) : Ky → List Lf → List Gr3 → Prop
  | _, _, [] => True
  | before, acc, g :: G => (g.1.1.size ≠ 0 ∧ g.1.1.size ≤ 40 ∧ cmpK before g.1 < 0) ∧ RD K R p g.1 acc g.2.1 g.2.2 ∧ RK K R p g.1 (acc ++ g.2.1) G
def gB (g : Gr3) : List Int := textInts g.1.1 ++ ([g.1.2] ++ g.2.2)
def RT (K : Int → Int → Bool) : Nat → List ByteArray → List Lf → List Lf → List Int → Prop
  | 0, _, _, _, _ => False
  | d + 1, p, acc, B, U => ∃ G : List Gr3, B = G.flatMap (fun g => g.2.1) ∧ U = uvF 9 G.length ++ G.flatMap gB ∧ G.length ≤ 1000 ∧ (G = [] → p.length = 0) ∧ (G ≠ [] → p.length < 8) ∧ RK K (RT K d) p (ByteArray.empty, 0) acc G
def Rds (f : Nat → Int) (n : Nat) (r : List ByteArray → List Lf → Nat → Option (List Lf × Nat)) (R : List ByteArray → List Lf → List Lf → List Int → Prop) : Prop :=
  ∀ p acc x acc' x', r p acc x = some (acc', x') ∧ x ≤ n ↔ ∃ B U, acc' = acc ++ B ∧ R p acc B U ∧ At f x U ∧ x' = x + U.length ∧ x' ≤ n
theorem rdKd_iff (hf : Byt f) (hK : KOk K) {r : List ByteArray → List Lf → Nat → Option (List Lf × Nat)} {R : List ByteArray → List Lf → List Lf → List Int → Prop} (hR : Rds f n r R) (p : List ByteArray) (y : Ky) (acc : List Lf) (x : Nat) (acc' : List Lf) (x' : Nat) :
    rdKd f n K r p y acc x = some (acc', x') ∧ x ≤ n ↔ ∃ B U, acc' = acc ++ B ∧ RD K R p y acc B U ∧ At f x U ∧ x' = x + U.length ∧ x' ≤ n := by
  unfold rdKd RD
  by_cases h3 : y.2 = 3
  · simp only [if_pos h3]
    exact hR (p ++ [y.1]) acc x acc' x'
  · simp only [if_neg h3]
    by_cases h12 : y.2 = 1 ∨ y.2 = 2
    · rw [if_pos h12]
      constructor
      · rintro ⟨h, hx⟩
        obtain ⟨⟨c, x1⟩, hc, h⟩ := bind_some_iff.1 h
        simp only at h
        split at h
        · cases h
        · rename_i h0
          obtain ⟨c1, c2, c3, c4, c5⟩ := (rd_iff hf).1 hc
          obtain ⟨B, b1, b2, b3, b4, b5, b6⟩ := (rdLs_iff hf hK h12 c).1 ⟨h, c5⟩
          refine ⟨B, mB B y.2, b1, ⟨h12, fun e => h0 (by rw [← b2, e]; rfl), by omega, b3, rfl⟩, ?_, ?_, b6⟩
          · unfold mB
            rw [At.app, b2]
            exact ⟨c3, by rw [← c4]; exact b4⟩
          · unfold mB
            rw [List.length_append, b2, b5, c4]; omega
      · rintro ⟨B, U, rfl, ⟨_, hB, hl, hO, rfl⟩, hat, hx, hn⟩
        unfold mB at hat hx
        rw [At.app] at hat
        rw [List.length_append] at hx
        have hc : rd f n x 1000 = some (B.length, x + (uvF 9 B.length).length) := (rd_iff hf).2 ⟨by omega, by omega, hat.1, rfl, by omega⟩
        have hr := (rdLs_iff hf hK h12 B.length (before := (0, 0)) (acc := acc) (acc' := acc ++ B) (x := x + (uvF 9 B.length).length) (x' := x')).2 ⟨B, rfl, rfl, hO, hat.2, by omega, hn⟩
        refine ⟨?_, by omega⟩
        rw [hc]
        simp only [Option.bind_some]
        rw [if_neg (fun e => hB (List.length_eq_zero_iff.1 e))]
        exact hr.1
    · rw [if_neg h12]
      constructor
      · rintro ⟨h, _⟩; cases h
      · rintro ⟨B, U, _, ⟨h, _⟩, _⟩; exact absurd h h12
theorem rdKs_iff (hf : Byt f) (hK : KOk K) {r : List ByteArray → List Lf → Nat → Option (List Lf × Nat)} {R : List ByteArray → List Lf → List Lf → List Int → Prop} (hR : Rds f n r R) (p : List ByteArray) : ∀ (k : Nat) (before : Ky) (acc : List Lf) (x : Nat) (acc' : List Lf) (x' : Nat),
    rdKs f n K r p k before acc x = some (acc', x') ∧ x ≤ n ↔ ∃ G : List Gr3, acc' = acc ++ G.flatMap (fun g => g.2.1) ∧ G.length = k ∧ RK K R p before acc G ∧ At f x (G.flatMap gB) ∧ x' = x + (G.flatMap gB).length ∧ x' ≤ n
  | 0, before, acc, x, acc', x' => by
    unfold rdKs
    constructor
    · rintro ⟨h, hx⟩
      simp only [Option.some.injEq, Prod.mk.injEq] at h
      obtain ⟨rfl, rfl⟩ := h
      exact ⟨[], by simp, rfl, trivial, fun i hi => by simp at hi, by simp, hx⟩
    · rintro ⟨G, rfl, hG, _, _, rfl, hn⟩
      obtain rfl := List.length_eq_zero_iff.1 hG
      simp at hn ⊢
      exact hn
  | k + 1, before, acc, x, acc', x' => by
    unfold rdKs
    constructor
    · rintro ⟨h, hx⟩
      obtain ⟨⟨y, x1⟩, hy, h⟩ := bind_some_iff.1 h
      obtain ⟨⟨acc1, x2⟩, hd, h⟩ := bind_some_iff.1 h
      obtain ⟨y1, y2, y3, y4, y5, y6⟩ := (rdKy_iff hf).1 hy
      obtain ⟨B, U, b1, b2, b3, b4, b5⟩ := (rdKd_iff hf hK hR p y acc x1 acc1 x2).1 ⟨hd, y6⟩
      subst b1
      obtain ⟨G, g1, g2, g3, g4, g5, g6⟩ := (rdKs_iff hf hK hR p k y (acc ++ B) x2 acc' x').1 ⟨h, b5⟩
      refine ⟨(y, B, U) :: G, by rw [g1]; simp, by simp [g2], ⟨⟨y1, y2, y3⟩, b2, g3⟩, ?_, ?_, g6⟩
      · rw [List.flatMap_cons, At.app]
        have eb : gB (y, B, U) = (textInts y.1 ++ [y.2]) ++ U := by simp [gB]
        rw [eb, At.app]
        refine ⟨⟨y4, by rw [← y5]; exact b3⟩, ?_⟩
        rw [List.length_append, ← Nat.add_assoc, ← y5, ← b4]
        exact g4
      · rw [List.flatMap_cons, List.length_append]
        have eb : gB (y, B, U) = (textInts y.1 ++ [y.2]) ++ U := by simp [gB]
        rw [eb, List.length_append, g5, b4, y5]; omega
    · rintro ⟨G, rfl, hG, hO, hat, hx, hn⟩
      cases G with
      | nil => simp at hG
      | cons g G =>
        obtain ⟨y, B, U⟩ := g
        obtain ⟨⟨y1, y2, y3⟩, hD, hO'⟩ := hO
        have eb : gB (y, B, U) = (textInts y.1 ++ [y.2]) ++ U := by simp [gB]
        rw [List.flatMap_cons, At.app, eb, At.app] at hat
        rw [List.flatMap_cons, List.length_append, eb, List.length_append] at hx
        obtain ⟨⟨a1, a2⟩, a3⟩ := hat
        rw [List.length_append, ← Nat.add_assoc] at a3
        have hy : rdKy f n before x = some (y, x + (textInts y.1 ++ [y.2]).length) := (rdKy_iff hf).2 ⟨y1, y2, y3, a1, rfl, by omega⟩
        have hd := (rdKd_iff hf hK hR p y acc (x + (textInts y.1 ++ [y.2]).length) (acc ++ B) (x + (textInts y.1 ++ [y.2]).length + U.length)).2 ⟨B, U, rfl, hD, a2, rfl, by omega⟩
        have hr := (rdKs_iff hf hK hR p k y (acc ++ B) (x + (textInts y.1 ++ [y.2]).length + U.length) (acc ++ ((y, B, U) :: G).flatMap fun g => g.2.1) x').2 ⟨G, by simp, by simpa using hG, hO', a3, by omega, hn⟩
        refine ⟨?_, by omega⟩
        rw [hy]
        simp only [Option.bind_some]
        rw [hd.1]
        exact hr.1
theorem rdTr_iff (hf : Byt f) (hK : KOk K) : ∀ d, Rds f n (rdTr f n K d) (RT K d)
  | 0 => fun p acc x acc' x' => by
    constructor
    · rintro ⟨h, _⟩; cases h
    · rintro ⟨B, U, _, h, _⟩; exact h.elim
  | d + 1 => fun p acc x acc' x' => by
    have ih := rdTr_iff hf hK d
    unfold rdTr
    constructor
    · rintro ⟨h, hx⟩
      obtain ⟨⟨c, x1⟩, hc, h⟩ := bind_some_iff.1 h
      simp only at h
      obtain ⟨c1, c2, c3, c4, c5⟩ := (rd_iff hf).1 hc
      split at h
      · rename_i h0
        subst h0
        split at h
        · rename_i hp
          simp only [Option.some.injEq, Prod.mk.injEq] at h
          obtain ⟨rfl, rfl⟩ := h
          exact ⟨[], uvF 9 0, by simp, ⟨[], rfl, by simp, by simp, fun _ => hp, fun h => absurd rfl h, trivial⟩, c3, c4, c5⟩
        · cases h
      · rename_i h0
        split at h
        · cases h
        · rename_i h8
          obtain ⟨G, g1, g2, g3, g4, g5, g6⟩ := (rdKs_iff hf hK ih p c _ acc x1 acc' x').1 ⟨h, c5⟩
          refine ⟨_, uvF 9 G.length ++ G.flatMap gB, g1, ⟨G, rfl, rfl, by omega, fun e => absurd (by rw [← g2, e]; rfl) h0, fun _ => by omega, g3⟩, ?_, ?_, g6⟩
          · rw [At.app, g2]
            exact ⟨c3, by rw [← c4]; exact g4⟩
          · rw [List.length_append, g2, g5, c4]; omega
    · rintro ⟨B, U, rfl, ⟨G, rfl, rfl, hl, h0, h8, hO⟩, hat, hx, hn⟩
      rw [At.app] at hat
      rw [List.length_append] at hx
      have hc : rd f n x 1000 = some (G.length, x + (uvF 9 G.length).length) := (rd_iff hf).2 ⟨by omega, by omega, hat.1, rfl, by omega⟩
      refine ⟨?_, by omega⟩
      rw [hc]
      simp only [Option.bind_some]
      by_cases e : G = []
      · subst e
        rw [if_pos (by rfl), if_pos (h0 rfl)]
        simp at hx ⊢
        omega
      · rw [if_neg (fun e' => e (List.length_eq_zero_iff.1 e')), if_neg (by have := h8 e; omega)]
        exact ((rdKs_iff hf hK ih p G.length _ acc (x + (uvF 9 G.length).length) (acc ++ G.flatMap fun g => g.2.1) x').2 ⟨G, rfl, rfl, hO, hat.2, by omega, hn⟩).1
end
def NmOk (p : List ByteArray) : Prop := ∀ s ∈ p, 1 ≤ s.size ∧ s.size ≤ 40
theorem NmOk.snoc {p : List ByteArray} {s : ByteArray} (h : NmOk p) (h0 : s.size ≠ 0) (h1 : s.size ≤ 40) : NmOk (p ++ [s]) := fun t ht => by
  rcases List.mem_append.1 ht with h' | h'
  · exact h t h'
  · simp at h'; subst h'; omega
theorem NmOk.pth {p : List ByteArray} (h : NmOk p) (h1 : 1 ≤ p.length) (h8 : p.length ≤ 8) : PthOk p := ⟨h1, h8, fun i hi => h _ (by simp [gS, List.getD, hi])⟩
abbrev lfT (x : Lf) : List ByteArray × (Int × Dt) := (x.p, (kd x.fl, (x.r, x.q)))
theorem cmpL_T : CmpT (fun x y : List ByteArray × (Int × Dt) => orI (cmpP x.1 y.1) ((fun x y : Int × Dt => orI (cmpI x.1 y.1) (cmpDt x.2 y.2)) x.2 y.2)) := CmpT.path.pair (CmpT.int.pair CmpT.dot)
theorem cmpL_cases (a b : Lf) : cmpL a b < 0 ∨ lfT a = lfT b ∨ cmpL b a < 0 := by
  rcases Int.lt_trichotomy (cmpL a b) 0 with h | h | h
  · exact .inl h
  · exact .inr (.inl ((cmpL_T.z (lfT a) (lfT b)).1 h))
  · exact .inr (.inr ((cmpL_T.neg (lfT b) (lfT a)).2 h))
theorem nx_T {p : List ByteArray} {a b : Lf} (h : lfT a = lfT b) : nx p a = nx p b := by
  have h1 : a.p = b.p := congrArg Prod.fst h
  have h2 : kd a.fl = kd b.fl := congrArg (fun t => t.2.1) h
  unfold nx
  rw [h1, h2]
theorem nx_lt {p : List ByteArray} {a b : Lf} {y z : Ky} (ha : nx p a = some y) (hb : nx p b = some z) (h : cmpK y z < 0) : cmpL a b < 0 := by
  rcases cmpL_cases a b with h1 | h1 | h1
  · exact h1
  · rw [nx_T h1, hb] at ha
    obtain rfl := Option.some.inj ha
    rw [CmpT.key.irr] at h; omega
  · have := nx_order h1 hb ha
    have := (CmpT.key.neg y z).1 h
    omega
theorem nx_snoc {p : List ByteArray} {s : ByteArray} {z : Lf} (h : z.p = p ++ [s]) : nx p z = some (s, kd z.fl) := by
  rw [nx_some, h]
  refine ⟨⟨List.prefix_append _ _, by simp⟩, ?_⟩
  unfold onWay
  rw [if_neg (by simp)]
  simp [gS, List.getD]
theorem same_dots {a b : Lf} (h1 : a.p = b.p) (h2 : a.fl = b.fl) : cmpL a b = cmpDt (a.r, a.q) (b.r, b.q) := by
  unfold cmpL
  rw [h1, h2]
  have e1 : cmpP b.p b.p = 0 := (CmpT.path.z _ _).2 rfl
  have e2 : cmpI (kd b.fl) (kd b.fl) = 0 := (CmpT.int.z _ _).2 rfl
  rw [e1, e2]
  simp [orI]
  rfl
theorem dot_dif {a b : Lf} (h : cmpDt (a.r, a.q) (b.r, b.q) < 0) : Dif a b := fun e => by
  rw [e.1, e.2, CmpT.dot.irr] at h; omega
section
variable {K : Int → Int → Bool}
theorem OkB_sound {kind : Int} {p : List ByteArray} : ∀ {B : List Lf} {before : Dt} {acc : List Lf}, OkB K kind p before acc B → acc.length ≤ 1000 →
    (∀ z ∈ B, LGd K kind p z ∧ cmpDt before (z.r, z.q) < 0) ∧ B.Pairwise (fun x y => cmpDt (x.r, x.q) (y.r, y.q) < 0) ∧ (∀ y ∈ acc, ∀ z ∈ B, Dif y z) ∧ (acc ++ B).length ≤ 1000
  | [], _, acc, _, h => ⟨fun z hz => by simp at hz, List.Pairwise.nil, fun y _ z hz => by simp at hz, by simpa using h⟩
  | z :: B, before, acc, ⟨h1, h2, h3, h4, h5⟩, h => by
    obtain ⟨k1, k2, k3, k4⟩ := OkB_sound h5 (by simp; omega)
    refine ⟨fun x hx => ?_, List.pairwise_cons.2 ⟨fun x hx => (k1 x hx).2, k2⟩, fun y hy x hx => ?_, by simpa using k4⟩
    · rcases List.mem_cons.1 hx with rfl | hx
      · exact ⟨h1, h2⟩
      · exact ⟨(k1 x hx).1, CmpT.dot.tr _ _ _ h2 (k1 x hx).2⟩
    · rcases List.mem_cons.1 hx with rfl | hx
      · exact h3 y hy
      · exact k3 y (by simp [hy]) x hx
theorem OkB_of {kind : Int} {p : List ByteArray} : ∀ {B : List Lf} {before : Dt} {acc : List Lf}, (∀ z ∈ B, LGd K kind p z ∧ cmpDt before (z.r, z.q) < 0) → B.Pairwise (fun x y => cmpDt (x.r, x.q) (y.r, y.q) < 0) → (∀ y ∈ acc, ∀ z ∈ B, Dif y z) → (acc ++ B).length ≤ 1000 → OkB K kind p before acc B
  | [], _, _, _, _, _, _ => trivial
  | z :: B, before, acc, h1, h2, h3, h4 => by
    obtain ⟨q1, q2⟩ := List.pairwise_cons.1 h2
    refine ⟨(h1 z List.mem_cons_self).1, (h1 z List.mem_cons_self).2, fun y hy => h3 y hy z List.mem_cons_self, by simp at h4; omega, ?_⟩
    refine OkB_of (fun x hx => ⟨(h1 x (List.mem_cons_of_mem _ hx)).1, q1 x hx⟩) q2 (fun y hy x hx => ?_) (by simpa using h4)
    rcases List.mem_append.1 hy with hy | hy
    · exact h3 y hy x (List.mem_cons_of_mem _ hx)
    · simp at hy; subst hy; exact dot_dif (q1 x hx)
structure VB (K : Int → Int → Bool) (B : List Lf) : Prop where
  ok : ∀ z ∈ B, LfOk1 z ∧ K z.r z.q = true
  ord : B.Pairwise (fun x y => cmpL x y < 0)
  dif : B.Pairwise Dif
theorem VB.app {A B : List Lf} (h : VB K A) (k : VB K B) (h1 : ∀ a ∈ A, ∀ b ∈ B, cmpL a b < 0) (h2 : ∀ a ∈ A, ∀ b ∈ B, Dif a b) : VB K (A ++ B) :=
  ⟨fun z hz => (List.mem_append.1 hz).elim (h.ok z) (k.ok z), List.pairwise_append.2 ⟨h.ord, k.ord, h1⟩, List.pairwise_append.2 ⟨h.dif, k.dif, h2⟩⟩
theorem VB.parts {A B : List Lf} (h : VB K (A ++ B)) : VB K A ∧ VB K B ∧ (∀ a ∈ A, ∀ b ∈ B, Dif a b) := by
  obtain ⟨o1, o2, _⟩ := List.pairwise_append.1 h.ord
  obtain ⟨d1, d2, d3⟩ := List.pairwise_append.1 h.dif
  exact ⟨⟨fun z hz => h.ok z (by simp [hz]), o1, d1⟩, ⟨fun z hz => h.ok z (by simp [hz]), o2, d2⟩, d3⟩
theorem emB_empty {v : ByteArray} : emB v = true ↔ v = ByteArray.empty := by
  unfold emB
  rw [Lib.toList_data]
  obtain ⟨⟨l⟩⟩ := v
  cases l with
  | nil => simp; rfl
  | cons a l => simp; intro h; injection h with h; injection h with h; cases h
theorem LGd.ok1 {kind : Int} {p : List ByteArray} {z : Lf} (h : LGd K kind p z) (hp : PthOk p) : LfOk1 z := by
  refine ⟨by rw [h.p]; exact hp, h.v, fun hf => ?_⟩
  rw [h.fl] at hf
  exact emB_empty.2 (h.e (of_decide_eq_true hf))
theorem LGd.kd' {kind : Int} (hk : kind = 1 ∨ kind = 2) {p : List ByteArray} {z : Lf} (h : LGd K kind p z) : kd z.fl = kind := by
  rw [h.fl]
  rcases hk with rfl | rfl <;> rfl
def GrS (K : Int → Int → Bool) (E : List ByteArray → List Lf → List Int → Prop) (p : List ByteArray) (acc : List Lf) (g : Gr3) : Prop :=
  (g.2.1 ≠ [] ∧ ∀ z ∈ g.2.1, nx p z = some g.1) ∧ (if g.1.2 = 3 then E (p ++ [g.1.1]) g.2.1 g.2.2 else g.2.2 = mB g.2.1 g.1.2) ∧ VB K g.2.1 ∧ (∀ y ∈ acc, ∀ z ∈ g.2.1, Dif y z) ∧ (acc ++ g.2.1).length ≤ 1000
def SndT (K : Int → Int → Bool) (d : Nat) : Prop := ∀ p acc B U, RT K d p acc B U → NmOk p → acc.length ≤ 1000 → EnT d p B U ∧ VB K B ∧ (∀ z ∈ B, nx p z ≠ none) ∧ (∀ y ∈ acc, ∀ z ∈ B, Dif y z) ∧ (acc ++ B).length ≤ 1000 ∧ (p ≠ [] → B ≠ [])
theorem RD_sound {d : Nat} (ih : SndT K d) {p : List ByteArray} (hp : NmOk p) (h8 : p.length < 8) {acc : List Lf} (ha : acc.length ≤ 1000) {g : Gr3} (hn : g.1.1.size ≠ 0 ∧ g.1.1.size ≤ 40) (h : RD K (RT K d) p g.1 acc g.2.1 g.2.2) : GrS K (EnT d) p acc g := by
  unfold RD at h
  unfold GrS
  have hp' := hp.snoc hn.1 hn.2
  by_cases h3 : g.1.2 = 3
  · rw [if_pos h3] at h ⊢
    obtain ⟨e1, e2, e3, e4, e5, e6⟩ := ih _ _ _ _ h hp' ha
    refine ⟨⟨e6 (by simp), fun z hz => ?_⟩, e1, e2, e4, e5⟩
    have eg : g.1 = (g.1.1, 3) := by rw [← h3]
    rw [eg]
    exact nx_map.2 (e3 z hz)
  · rw [if_neg h3] at h ⊢
    obtain ⟨h12, hB, hl, hO, hU⟩ := h
    obtain ⟨k1, k2, k3, k4⟩ := OkB_sound hO ha
    have hpo : PthOk (p ++ [g.1.1]) := hp'.pth (by simp) (by simp; omega)
    refine ⟨⟨hB, fun z hz => ?_⟩, hU, ⟨fun z hz => ⟨(k1 z hz).1.ok1 hpo, (k1 z hz).1.k⟩, ?_, k2.imp dot_dif⟩, k3, k4⟩
    · rw [nx_snoc (k1 z hz).1.p, (k1 z hz).1.kd' h12]
    · refine List.Pairwise.imp_of_mem ?_ k2
      intro a b ha' hb' hab
      rw [same_dots ((k1 a ha').1.p.trans (k1 b hb').1.p.symm) ((k1 a ha').1.fl.trans (k1 b hb').1.fl.symm)]
      exact hab
theorem RK_sound {d : Nat} (ih : SndT K d) {p : List ByteArray} (hp : NmOk p) (h8 : p.length < 8) : ∀ {G : List Gr3} {before : Ky} {acc : List Lf}, acc.length ≤ 1000 → RK K (RT K d) p before acc G →
    (∀ g ∈ G, (g.2.1 ≠ [] ∧ ∀ z ∈ g.2.1, nx p z = some g.1) ∧ (if g.1.2 = 3 then EnT d (p ++ [g.1.1]) g.2.1 g.2.2 else g.2.2 = mB g.2.1 g.1.2)) ∧ (G.map Prod.fst).Pairwise (fun x y => cmpK x y < 0) ∧ (∀ g ∈ G, cmpK before g.1 < 0) ∧
    VB K (G.flatMap fun g => g.2.1) ∧ (∀ y ∈ acc, ∀ z ∈ G.flatMap (fun g => g.2.1), Dif y z) ∧ (acc ++ G.flatMap fun g => g.2.1).length ≤ 1000
  | [], before, acc, ha, _ => ⟨fun g hg => by simp at hg, by simp, fun g hg => by simp at hg, ⟨fun z hz => by simp at hz, by simp, by simp⟩, fun y _ z hz => by simp at hz, by simpa using ha⟩
  | g :: G, before, acc, ha, ⟨⟨n1, n2, n3⟩, hD, hR⟩ => by
    obtain ⟨s1, s2, s3, s4, s5⟩ := RD_sound ih hp h8 ha ⟨n1, n2⟩ hD
    obtain ⟨r1, r2, r3, r4, r5, r6⟩ := RK_sound ih hp h8 s5 hR
    refine ⟨fun x hx => ?_, ?_, fun x hx => ?_, ?_, fun y hy z hz => ?_, ?_⟩
    · rcases List.mem_cons.1 hx with rfl | hx
      · exact ⟨s1, s2⟩
      · exact r1 x hx
    · rw [List.map_cons, List.pairwise_cons]
      refine ⟨fun k hk => ?_, r2⟩
      obtain ⟨x, hx, rfl⟩ := List.mem_map.1 hk
      exact r3 x hx
    · rcases List.mem_cons.1 hx with rfl | hx
      · exact n3
      · exact CmpT.key.tr _ _ _ n3 (r3 x hx)
    · rw [List.flatMap_cons]
      refine s3.app r4 (fun a ha' b hb => ?_) (fun a ha' b hb => r5 a (by simp [ha']) b hb)
      obtain ⟨x, hx, hb'⟩ := flat_mem hb
      exact nx_lt (s1.2 a ha') ((r1 x hx).1.2 b hb') (r3 x hx)
    · rw [List.flatMap_cons] at hz
      rcases List.mem_append.1 hz with hz | hz
      · exact s4 y hy z hz
      · exact r5 y (by simp [hy]) z hz
    · rw [List.flatMap_cons, ← List.append_assoc]; exact r6
theorem RT_sound : ∀ d, SndT K d
  | 0 => fun p acc B U h _ _ => h.elim
  | d + 1 => fun p acc B U ⟨G, hB, hU, hl, h0, h8, hR⟩ hp ha => by
    by_cases hG : G = []
    · subst hG
      obtain rfl : B = [] := hB
      refine ⟨⟨[], rfl, hU, by simp, fun g hg => by simp at hg⟩, ⟨fun z hz => by simp at hz, by simp, by simp⟩, fun z hz => by simp at hz, fun y _ z hz => by simp at hz, by simpa using ha, fun hne => absurd (List.length_eq_zero_iff.1 (h0 rfl)) hne⟩
    · obtain ⟨r1, r2, r3, r4, r5, r6⟩ := RK_sound (RT_sound d) hp (h8 hG) ha hR
      subst hB
      refine ⟨⟨G, rfl, hU, r2, r1⟩, r4, fun z hz => ?_, r5, r6, fun _ e => ?_⟩
      · obtain ⟨g, hg, hz'⟩ := flat_mem hz
        rw [(r1 g hg).1.2 z hz']; simp
      · cases G with
        | nil => exact hG rfl
        | cons g G =>
          rw [List.flatMap_cons, List.append_eq_nil_iff] at e
          exact (r1 g List.mem_cons_self).1.1 e.1
end
theorem flat_len_ge : ∀ {G : List Gr3}, (∀ g ∈ G, g.2.1 ≠ []) → G.length ≤ (G.flatMap fun g => g.2.1).length
  | [], _ => by simp
  | g :: G, h => by
    have ih := flat_len_ge (G := G) (fun x hx => h x (List.mem_cons_of_mem _ hx))
    have : 1 ≤ g.2.1.length := List.length_pos_iff.2 (h g List.mem_cons_self)
    rw [List.flatMap_cons, List.length_append, List.length_cons]; omega
theorem nx_name1 {p : List ByteArray} {x : Lf} {y : Ky} (hx : LfOk1 x) (h : nx p x = some y) : y.1.size ≠ 0 ∧ p.length < 8 := by
  rw [nx_some] at h
  obtain ⟨⟨_, hl⟩, e⟩ := h
  have e1 : gS x.p p.length = y.1 := congrArg Prod.fst e
  have h1 := (hx.1.2.2 p.length hl).1
  rw [e1] at h1
  have := hx.1.2.1
  exact ⟨by omega, by omega⟩
theorem key_first {s : ByteArray} {k : Int} (h : s.size ≠ 0) : cmpK (ByteArray.empty, 0) (s, k) < 0 := by
  have e : ltS ByteArray.empty s = true := by
    unfold ltS
    rw [Lib.toList_data, Lib.toList_data]
    obtain ⟨⟨l⟩⟩ := s
    cases l with
    | nil => exact absurd rfl h
    | cons a l => rfl
  unfold cmpK cmpS
  simp [e, orI]
section
variable {K : Int → Int → Bool}
def CplT (K : Int → Int → Bool) (d : Nat) : Prop := ∀ p acc B U, EnT d p B U → VB K B → (∀ y ∈ acc, ∀ z ∈ B, Dif y z) → (acc ++ B).length ≤ 1000 → p.length + d = 9 → (p ≠ [] → B ≠ []) → RT K d p acc B U
theorem RD_of {d : Nat} (hK : KOk K) (ih : CplT K d) {p : List ByteArray} (hd : p.length + (d + 1) = 9) {acc : List Lf} {g : Gr3} (h1 : g.2.1 ≠ [] ∧ ∀ z ∈ g.2.1, nx p z = some g.1) (h2 : if g.1.2 = 3 then EnT d (p ++ [g.1.1]) g.2.1 g.2.2 else g.2.2 = mB g.2.1 g.1.2)
    (hv : VB K g.2.1) (hx : ∀ y ∈ acc, ∀ z ∈ g.2.1, Dif y z) (hl : (acc ++ g.2.1).length ≤ 1000) : RD K (RT K d) p g.1 acc g.2.1 g.2.2 := by
  unfold RD
  by_cases h3 : g.1.2 = 3
  · rw [if_pos h3] at h2 ⊢
    exact ih _ _ _ _ h2 hv hx hl (by simp; omega) (fun _ => h1.1)
  · rw [if_neg h3] at h2 ⊢
    have hz : ∀ z ∈ g.2.1, z.p = p ++ [g.1.1] ∧ kd z.fl = g.1.2 := fun z hz => nx_leaf_path h3 (h1.2 z hz)
    obtain ⟨z0, hz0⟩ := List.exists_mem_of_ne_nil _ h1.1
    have h12 : g.1.2 = 1 ∨ g.1.2 = 2 := by rw [← (hz z0 hz0).2]; exact kd_or _
    refine ⟨h12, h1.1, by simp at hl; omega, OkB_of (fun z hz' => ⟨⟨(hz z hz').1, ?_, (hv.ok z hz').2, (hv.ok z hz').1.2.1, fun e => ?_⟩, ?_⟩) ?_ hx hl, h2⟩
    · have := (hz z hz').2
      cases e : z.fl
      · rw [e] at this
        rw [← this]; rfl
      · rw [e] at this
        rw [← this]; rfl
    · have := (hz z hz').2
      rw [e] at this
      refine emB_empty.1 ((hv.ok z hz').1.2.2 ?_)
      cases e' : z.fl
      · rw [e'] at this; simp [kd] at this
      · rfl
    · obtain ⟨k1, _, k3, _⟩ := hK _ _ (hv.ok z hz').2
      unfold cmpDt orI cmpI
      simp only
      by_cases e : 0 < z.r
      · simp [e]
      · have e' : z.r = 0 := by omega
        simp [e']
        omega
    · refine List.Pairwise.imp_of_mem ?_ hv.ord
      intro a b ha hb hab
      rwa [same_dots ((hz a ha).1.trans (hz b hb).1.symm) (kd_inj ((hz a ha).2.trans (hz b hb).2.symm))] at hab
theorem RK_of {d : Nat} (hK : KOk K) (ih : CplT K d) {p : List ByteArray} (hd : p.length + (d + 1) = 9) : ∀ {G : List Gr3} {before : Ky} {acc : List Lf},
    (∀ g ∈ G, (g.2.1 ≠ [] ∧ ∀ z ∈ g.2.1, nx p z = some g.1) ∧ (if g.1.2 = 3 then EnT d (p ++ [g.1.1]) g.2.1 g.2.2 else g.2.2 = mB g.2.1 g.1.2)) → (G.map Prod.fst).Pairwise (fun x y => cmpK x y < 0) → (∀ g ∈ G, cmpK before g.1 < 0) →
    VB K (G.flatMap fun g => g.2.1) → (∀ y ∈ acc, ∀ z ∈ G.flatMap (fun g => g.2.1), Dif y z) → (acc ++ G.flatMap fun g => g.2.1).length ≤ 1000 → RK K (RT K d) p before acc G
  | [], _, _, _, _, _, _, _, _ => trivial
  | g :: G, before, acc, h1, h2, h3, h4, h5, h6 => by
    rw [List.flatMap_cons] at h4 h5 h6
    obtain ⟨v1, v2, v3⟩ := h4.parts
    rw [List.map_cons, List.pairwise_cons] at h2
    obtain ⟨g1, g2⟩ := h1 g List.mem_cons_self
    obtain ⟨z0, hz0⟩ := List.exists_mem_of_ne_nil _ g1.1
    have n0 := nx_name1 (v1.ok z0 hz0).1 (g1.2 z0 hz0)
    have n1 := nx_name (v1.ok z0 hz0).1 (g1.2 z0 hz0)
    refine ⟨⟨n0.1, n1, h3 g List.mem_cons_self⟩, RD_of hK ih hd g1 g2 v1 (fun y hy z hz => h5 y hy z (by simp [hz])) (by simp at h6 ⊢; omega), ?_⟩
    refine RK_of hK ih hd (fun x hx => h1 x (List.mem_cons_of_mem _ hx)) h2.2 (fun x hx => h2.1 x.1 (List.mem_map.2 ⟨x, hx, rfl⟩)) v2 (fun y hy z hz => ?_) (by rw [List.append_assoc]; exact h6)
    rcases List.mem_append.1 hy with hy | hy
    · exact h5 y hy z (by simp [hz])
    · exact v3 y hy z hz
theorem RT_of (hK : KOk K) : ∀ d, CplT K d
  | 0 => fun p acc B U h => h.elim
  | d + 1 => fun p acc B U ⟨G, hB, hU, hk, hG⟩ hv hx hl hd hp => by
    subst hB
    have hgl := flat_len_ge (G := G) (fun g hg => (hG g hg).1.1)
    refine ⟨G, rfl, hU, by rw [List.length_append] at hl; omega, fun e => ?_, fun e => ?_, RK_of hK (RT_of hK d) hd hG hk (fun g hg => ?_) hv hx hl⟩
    · by_cases hpe : p = []
      · rw [hpe]; rfl
      · exact absurd (by rw [e]; rfl) (hp hpe)
    · obtain ⟨g, hg⟩ := List.exists_mem_of_ne_nil _ e
      obtain ⟨z, hz⟩ := List.exists_mem_of_ne_nil _ (hG g hg).1.1
      have : z ∈ G.flatMap fun g => g.2.1 := by simpa using ⟨g.1.1, g.1.2, g.2.1, ⟨g.2.2, hg⟩, hz⟩
      exact (nx_name1 (hv.ok z this).1 ((hG g hg).1.2 z hz)).2
    · obtain ⟨z, hz⟩ := List.exists_mem_of_ne_nil _ (hG g hg).1.1
      have : z ∈ G.flatMap fun g => g.2.1 := by simpa using ⟨g.1.1, g.1.2, g.2.1, ⟨g.2.2, hg⟩, hz⟩
      exact key_first (nx_name1 (hv.ok z this).1 ((hG g hg).1.2 z hz)).1
end
theorem EnT_valid {R F T : Nat → Int} {n : Nat} {l : List Lf} (h : LvOk R F T n l l.length) : ∀ (d : Nat) (p : List ByteArray), p.length + d = 9 → 0 < d → EnT d p (uL l p l.length) (tB l d p)
  | 0, _, _, h0 => by omega
  | d + 1, p, hd, _ => by
    obtain ⟨k1, k2⟩ := kS_ok p h l.length (Nat.le_refl _)
    have hof : ∀ y ∈ kS l p l.length, ∃ j, j < l.length ∧ nx p (gL l j) = some y := fun y hy => (k2 y).1 hy
    refine ⟨(kS l p l.length).map fun y => (y, dsK l p y l.length, if y.2 = 3 then tB l d (p ++ [y.1]) else mB (dsK l p y l.length) y.2), ?_, ?_, ?_, ?_⟩
    · rw [List.flatMap_map, ← groups_uL p h l.length (Nat.le_refl _)]
    · rw [tB_eq, List.length_map, List.flatMap_map]
      rfl
    · rw [List.map_map]
      simpa [Function.comp_def] using k1
    · intro g hg
      obtain ⟨y, hy, rfl⟩ := List.mem_map.1 hg
      obtain ⟨j, hj, hn⟩ := hof y hy
      refine ⟨⟨?_, fun z hz => ?_⟩, ?_⟩
      · exact List.ne_nil_of_mem (dsK_mem.2 ⟨j, hj, hn, rfl⟩)
      · obtain ⟨i, _, hi, rfl⟩ := dsK_mem.1 hz
        exact hi
      · by_cases h3 : y.2 = 3
        · simp only [if_pos h3]
          have ey : y = (y.1, 3) := by rw [← h3]
          have e2 : dsK l p y l.length = uL l (p ++ [y.1]) l.length := by
            conv => lhs; rw [ey]
            exact dsK_uL l p y.1 l.length
          rw [e2]
          have hm : nx (p ++ [y.1]) (gL l j) ≠ none := nx_map.1 (by rw [← ey]; exact hn)
          have hp := (nx_ne.1 hm).2
          have h8 := (h j hj).1.1.2.1
          simp at hp
          exact EnT_valid h d (p ++ [y.1]) (by simp; omega) (by omega)
        · simp only [if_neg h3]
theorem VB_iff {R F T : Nat → Int} {n : Nat} {l : List Lf} : VB (fun r q => hasK R F T r q q n) l ↔ LvOk R F T n l l.length ∧ Dis l l.length := by
  have hg : ∀ {i : Nat} (hi : i < l.length), gL l i = l[i] := fun {i} hi => by simp [gL, List.getD, hi]
  constructor
  · intro h
    refine ⟨fun i hi => ?_, fun i hi j hj => ?_⟩
    · rw [hg hi]
      refine ⟨(h.ok _ (List.getElem_mem hi)).1, (h.ok _ (List.getElem_mem hi)).2, fun h0 => ?_⟩
      rw [hg (by omega : i - 1 < l.length)]
      exact List.pairwise_iff_getElem.1 h.ord (i - 1) i (by omega) hi (by omega)
    · rw [hg hi, hg (by omega : j < l.length)]
      exact List.pairwise_iff_getElem.1 h.dif j i (by omega) hi hj
  · rintro ⟨h1, h2⟩
    refine ⟨fun z hz => ?_, List.pairwise_iff_getElem.2 fun i j hi hj hij => ?_, List.pairwise_iff_getElem.2 fun i j hi hj hij => ?_⟩
    · obtain ⟨i, hi, rfl⟩ := List.getElem_of_mem hz
      have := h1 i hi
      rw [hg hi] at this
      exact ⟨this.1, this.2.1⟩
    · have := h1.lt j hij hj
      rwa [hg hi, hg hj] at this
    · have := h2 j hj i hij
      rwa [hg hi, hg hj] at this
theorem strict_iff {f : Nat → Int} (hf : Byt f) {n : Nat} {R F T : Nat → Int} {m : Nat} (hK : KOk (fun r q => hasK R F T r q q m)) {x x' : Nat} {l : List Lf} :
    rdTr f n (fun r q => hasK R F T r q q m) 9 [] [] x = some (l, x') ∧ x ≤ n ↔ (LvOk R F T m l l.length ∧ Dis l l.length ∧ l.length ≤ 1000) ∧ At f x (tB l 9 []) ∧ x' = x + (tB l 9 []).length ∧ x' ≤ n := by
  rw [rdTr_iff hf hK 9 [] [] x l x']
  constructor
  · rintro ⟨B, U, hB, hR, hat, hx, hn⟩
    rw [List.nil_append] at hB
    subst hB
    obtain ⟨e1, e2, e3, e4, e5, e6⟩ := RT_sound 9 [] [] l U hR (fun s hs => by simp at hs) (by simp)
    have eU : U = tB l 9 [] := by
      have := EnT_tB 9 [] l U [] [] e1 (fun z hz => by simp at hz) (fun z hz => by simp at hz)
      simpa using this
    subst eU
    obtain ⟨v1, v2⟩ := VB_iff.1 e2
    simp only [List.nil_append] at e5 ⊢
    exact ⟨⟨v1, v2, e5⟩, hat, hx, hn⟩
  · rintro ⟨⟨v1, v2, v3⟩, hat, hx, hn⟩
    have hE := EnT_valid v1 9 [] rfl (by decide)
    rw [uL_all v1 _ (Nat.le_refl _), List.take_length] at hE
    exact ⟨l, tB l 9 [], rfl, RT_of hK 9 [] [] l _ hE (VB_iff.2 ⟨v1, v2⟩) (fun y hy => by simp at hy) (by simpa using v3) rfl (fun h => absurd rfl h), hat, hx, hn⟩
end Go.Proofs.YtakmpmhjcngbbaaGreatDoor
namespace Go.Proofs.YtakmpmhjcngbbaaGreatDoor
open Go.ChangeShapes Go.WideShapes Go.ChangeAt Go.RowKit Go.Maps
variable {EX : Nat → Option Value}
theorem holdsR {w : World} {bm n : Nat} {D : DataW Value} {G : Int → Value} {L : Int → List (Int × Int)} (h : GrpR w bm n D G L) (r f t : Int) (hr : (Lit.int .i64 r).wf = true) (hs : Srt (L r)) (hl : (L r).length ≤ 1000000) :
    Calls Tryz.prog 143 #[.map (some bm), .int .i64 r, .agg #[.int .i64 f, .int .i64 t]] w fun e w' => e = .returned (.bool (inB (L r) f t)) ∧ Below w.heap.size w w' := by
  obtain ⟨W0, hW0⟩ : ∃ W0, w.alloc (.cells #[.int .i64 f, .int .i64 t] 130) = W0 := ⟨_, rfl⟩
  have b0 : Below w.heap.size w W0 := by rw [← hW0]; exact (Below.refl _ _).alloc (Nat.le_refl _) _
  have z0 : W0.heap.size = w.heap.size + 1 := by rw [← hW0]; simp
  have x0 : W0.cell? ⟨w.heap.size, 0, none⟩ = some (.int .i64 f) := by rw [← hW0]; simp
  have x1 : W0.cell? ⟨w.heap.size, 1, none⟩ = some (.int .i64 t) := by rw [← hW0]; simp
  have h0 := h.below b0
  have hlk := h0.look r hr
  have hrow := h0.rows r
  obtain ⟨a, c, e, hss, hlen0⟩ : ∃ a c, G r = .slice a (L r).length c ∧ SS W0 a (L r).length (fun i => ((L r).getD i (0, 0)).1) (fun i => ((L r).getD i (0, 0)).2) ∧ ((L r).length ≠ 0 → ∃ g, a = some ⟨g, 0, none⟩) := by
    rcases hrow.2 with ⟨e, e0⟩ | ⟨g, cap, cur, e, _⟩
    · exact ⟨none, 0, by rw [e, e0], .inl e0, fun h => absurd e0 h⟩
    · exact ⟨_, cap, e, by rw [e] at hrow; exact ss_own hrow rfl, fun _ => ⟨g, rfl⟩⟩
  rw [e] at hlk
  have HSS := hid hss
  have HI := hid (in_iff hs f t)
  have HM : Hid (∀ i j, i < j → j < (L r).length → (fun i => ((L r).getD i (0, 0)).2) i < (fun i => ((L r).getD i (0, 0)).2) j) := fun i j hij hj => by
    have := srt_get hs hij hj
    show ((L r).getD i (0, 0)).2 < ((L r).getD j (0, 0)).2
    omega
  clear e hrow h0 h hs hss
  generalize hlen : (L r).length = m at *
  go_enter Tryz.func143, Tryz.ntmps143
  go_wp2_with fail
  try rw [hW0]
  refine (bsearch a m c _ _ t _ (by omega) HSS.out HM.out).mono ?_
  rintro e w2 ⟨i, fb, rfl, hi, hlo, hhi, b2⟩
  clear hW0
  have HE := hid (HI.out i hi hlo hhi)
  have y0 := (b2.cell (p := ⟨w.heap.size, 0, none⟩) (show w.heap.size < W0.heap.size by omega)).trans x0
  have HB := hid (keepS b0 b2)
  by_cases him : i < m
  · have hcell : ∃ g off, a = some ⟨g, off, none⟩ ∧ g < w2.heap.size ∧ w2.cell? ⟨g, off + i * 2, none⟩ = some (.int .i64 ((L r).getD i (0, 0)).1) := by
      rcases HSS.out with h | ⟨g, off, rfl, hg, hc⟩
      · omega
      · exact ⟨g, off, rfl, Nat.lt_of_lt_of_le hg b2.size, (b2.cell (p := ⟨g, off + i * 2, none⟩) hg).trans (hc i him).1⟩
    obtain ⟨g, off, rfl, hg, hcl⟩ := hcell
    have hk0 : (0 : Int) ≤ (i : Int) := Int.natCast_nonneg _
    have hk1 : (i : Int) < (m : Int) := by omega
    generalize hfi : ((L r).getD i (0, 0)).1 = fi at *
    clear hlo hhi b2 x0 x1 hlk HSS HM HI b0
    cases hle : decide (fi ≤ f) with
    | false =>
      have HF : Hid (inB (L r) f t = false) := by unfold Hid; rw [HE.out, hle]; simp
      go_wp2_with fail
      refine wp_region_held_drew (S := fun w' => w'.cell? ⟨w.heap.size, 0, none⟩ = some (.int .i64 f) ∧ w'.cell? ⟨g, off + i * 2, none⟩ = some (.int .i64 fi)) (by kernel_rfl) ⟨y0, hcl⟩ (fun hHeld => ?_)
      refine tk 0 20 ?_ (by kernel_rfl) (fun _ _ _ h => h) ?_ hHeld (tk 1 21 ?_ (by kernel_rfl) (fun _ _ _ h => h) ?_ hHeld (tk 2 22 ?_ (by kernel_rfl) (fun _ _ _ h => h) ?_ hHeld (tk 3 23 ?_ (by kernel_rfl) (fun _ _ _ h => h) ?_ hHeld ?_)))
      iterate 4 (rotate_left; focus (intro o ho; simp only [gZa, gZb, gZc, gZd] at ho; subst ho; refine Or.inl ⟨by rfl, ?_⟩; intro w hSw; (try dsimp only at hSw); (try simp only [Act.put, sZa, sZb, sZc]); go_simp; try with_reducible rfl))
      try simp only [Act.put, sZa, sZb, sZc]
      refine tk 4 24 ?_ (by kernel_rfl) (fun _ _ _ h => h) ?_ hHeld (tk 5 25 ?_ (by kernel_rfl) (fun _ _ _ h => h) ?_ hHeld (tk 6 26 ?_ (by kernel_rfl) (fun _ _ _ h => h) ?_ hHeld (tk 7 27 ?_ (by kernel_rfl) (fun _ _ _ h => h) ?_ hHeld ?_)))
      iterate 4 (rotate_left; focus (intro o ho; simp only [gZa, gZb, gZc, gZd] at ho; subst ho; refine Or.inl ⟨by rfl, ?_⟩; intro w hSw; (try dsimp only at hSw); (try simp only [Act.put, sZa, sZb, sZc]); go_simp; try with_reducible rfl))
      try simp only [Act.put, sZa, sZb, sZc]
      refine tk 8 28 ?_ (by kernel_rfl) (fun _ _ _ h => h) ?_ hHeld (tk 9 29 ?_ (by kernel_rfl) (fun _ _ _ h => h) ?_ hHeld (tk 10 30 ?_ (by kernel_rfl) (fun _ _ _ h => h) ?_ hHeld (tk 11 31 ?_ (by kernel_rfl) (fun _ _ _ h => h) ?_ hHeld ?_)))
      iterate 4 (rotate_left; focus (intro o ho; simp only [gZa, gZb, gZc, gZd] at ho; subst ho; refine Or.inl ⟨by rfl, ?_⟩; intro w hSw; (try dsimp only at hSw); (try simp only [Act.put, sZa, sZb, sZc]); go_simp; try with_reducible rfl))
      try simp only [Act.put, sZa, sZb, sZc]
      refine tk 12 32 ?_ (by kernel_rfl) (fun _ _ _ h => h) ?_ hHeld (tk 13 33 ?_ (by kernel_rfl) (fun _ _ _ h => h) ?_ hHeld (tk 14 6 ?_ (by kernel_rfl) (fun _ _ _ h => h) ?_ hHeld ?_))
      iterate 3 (rotate_left; focus (intro o ho; simp only [gZa, gZb, gZc, gZd] at ho; subst ho; refine Or.inl ⟨by rfl, ?_⟩; intro w hSw; (try dsimp only at hSw); (try simp only [Act.put, sZa, sZb, sZc]); go_simp; try with_reducible rfl))
      try simp only [Act.put, sZa, sZb, sZc]
      refine wpAnyH_done (by kernel_rfl) ?_ _
      go_wp2_with fail
      go_ret
      exact ⟨retB HF.out.symm, HB.out.drew⟩
    | true =>
      have HF : Hid (inB (L r) f t = true) := by unfold Hid; rw [HE.out, hle]; simp [him]
      go_wp2_with fail
      refine wp_region_held_drew (S := fun w' => w'.cell? ⟨w.heap.size, 0, none⟩ = some (.int .i64 f) ∧ w'.cell? ⟨g, off + i * 2, none⟩ = some (.int .i64 fi)) (by kernel_rfl) ⟨y0, hcl⟩ (fun hHeld => ?_)
      refine tk 0 20 ?_ (by kernel_rfl) (fun _ _ _ h => h) ?_ hHeld (tk 1 21 ?_ (by kernel_rfl) (fun _ _ _ h => h) ?_ hHeld (tk 2 22 ?_ (by kernel_rfl) (fun _ _ _ h => h) ?_ hHeld (tk 3 23 ?_ (by kernel_rfl) (fun _ _ _ h => h) ?_ hHeld ?_)))
      iterate 4 (rotate_left; focus (intro o ho; simp only [gZa, gZb, gZc, gZd] at ho; subst ho; refine Or.inl ⟨by rfl, ?_⟩; intro w hSw; (try dsimp only at hSw); (try simp only [Act.put, sZa, sZb, sZc]); go_simp; try with_reducible rfl))
      try simp only [Act.put, sZa, sZb, sZc]
      refine tk 4 24 ?_ (by kernel_rfl) (fun _ _ _ h => h) ?_ hHeld (tk 5 25 ?_ (by kernel_rfl) (fun _ _ _ h => h) ?_ hHeld (tk 6 26 ?_ (by kernel_rfl) (fun _ _ _ h => h) ?_ hHeld (tk 7 27 ?_ (by kernel_rfl) (fun _ _ _ h => h) ?_ hHeld ?_)))
      iterate 4 (rotate_left; focus (intro o ho; simp only [gZa, gZb, gZc, gZd] at ho; subst ho; refine Or.inl ⟨by rfl, ?_⟩; intro w hSw; (try dsimp only at hSw); (try simp only [Act.put, sZa, sZb, sZc]); go_simp; try with_reducible rfl))
      try simp only [Act.put, sZa, sZb, sZc]
      refine tk 8 28 ?_ (by kernel_rfl) (fun _ _ _ h => h) ?_ hHeld (tk 9 29 ?_ (by kernel_rfl) (fun _ _ _ h => h) ?_ hHeld (tk 10 30 ?_ (by kernel_rfl) (fun _ _ _ h => h) ?_ hHeld (tk 11 31 ?_ (by kernel_rfl) (fun _ _ _ h => h) ?_ hHeld ?_)))
      iterate 4 (rotate_left; focus (intro o ho; simp only [gZa, gZb, gZc, gZd] at ho; subst ho; refine Or.inl ⟨by rfl, ?_⟩; intro w hSw; (try dsimp only at hSw); (try simp only [Act.put, sZa, sZb, sZc]); go_simp; try with_reducible rfl))
      try simp only [Act.put, sZa, sZb, sZc]
      refine tk 12 32 ?_ (by kernel_rfl) (fun _ _ _ h => h) ?_ hHeld (tk 13 33 ?_ (by kernel_rfl) (fun _ _ _ h => h) ?_ hHeld (tk 14 6 ?_ (by kernel_rfl) (fun _ _ _ h => h) ?_ hHeld ?_))
      iterate 3 (rotate_left; focus (intro o ho; simp only [gZa, gZb, gZc, gZd] at ho; subst ho; refine Or.inl ⟨by rfl, ?_⟩; intro w hSw; (try dsimp only at hSw); (try simp only [Act.put, sZa, sZb, sZc]); go_simp; try with_reducible rfl))
      try simp only [Act.put, sZa, sZb, sZc]
      refine wpAnyH_done (by kernel_rfl) ?_ _
      go_wp2_with fail
      go_ret
      exact ⟨retB HF.out.symm, HB.out.drew⟩
  · have HF : Hid (inB (L r) f t = false) := by unfold Hid; rw [HE.out]; simp [him]
    have hk2 : decide ((i : Int) < (m : Int)) = false := by simp; omega
    have hk3 : decide (i < m) = false := by simp; omega
    clear hlo hhi b2 x0 x1 hlk HSS HM HI b0
    go_wp2_with fail
    refine wp_region_held_drew (S := fun w' => w'.cell? ⟨w.heap.size, 0, none⟩ = some (.int .i64 f)) (by kernel_rfl) y0 (fun hHeld => ?_)
    refine tk 0 20 ?_ (by kernel_rfl) (fun _ _ _ h => h) ?_ hHeld (tk 1 21 ?_ (by kernel_rfl) (fun _ _ _ h => h) ?_ hHeld (tk 2 22 ?_ (by kernel_rfl) (fun _ _ _ h => h) ?_ hHeld (tk 3 23 ?_ (by kernel_rfl) (fun _ _ _ h => h) ?_ hHeld ?_)))
    iterate 4 (rotate_left; focus (intro o ho; simp only [gZa, gZb, gZc, gZd] at ho; subst ho; refine Or.inl ⟨by rfl, ?_⟩; intro w hSw; (try dsimp only at hSw); (try simp only [Act.put, sZa, sZb, sZc]); go_simp; try with_reducible rfl))
    try simp only [Act.put, sZa, sZb, sZc]
    refine tk 4 24 ?_ (by kernel_rfl) (fun _ _ _ h => h) ?_ hHeld ?_
    rotate_left
    · (intro o ho; simp only [gZa, gZb, gZc, gZd] at ho; subst ho; refine Or.inl ⟨by rfl, ?_⟩; intro w hSw; (try dsimp only at hSw); go_simp; try with_reducible rfl)
    try simp only [Act.put, sZa, sZb, sZc]
    refine tk 5 25 undef (by kernel_rfl) (fun _ _ _ h => h) ?_ hHeld (tk 6 26 undef (by kernel_rfl) (fun _ _ _ h => h) ?_ hHeld (tk 7 27 undef (by kernel_rfl) (fun _ _ _ h => h) ?_ hHeld (tk 8 28 undef (by kernel_rfl) (fun _ _ _ h => h) ?_ hHeld ?_)))
    iterate 4 (focus (intro o ho; simp only [gZa, gZb, gZc, gZd] at ho; subst ho; (try simp only [Act.put, sZa, sZb, sZc]); exact Or.inr ⟨by rfl, rfl⟩))
    try simp only [Act.put, sZa, sZb, sZc]
    refine tk 9 29 undef (by kernel_rfl) (fun _ _ _ h => h) ?_ hHeld (tk 10 30 undef (by kernel_rfl) (fun _ _ _ h => h) ?_ hHeld (tk 11 31 undef (by kernel_rfl) (fun _ _ _ h => h) ?_ hHeld (tk 12 32 undef (by kernel_rfl) (fun _ _ _ h => h) ?_ hHeld ?_)))
    iterate 4 (focus (intro o ho; simp only [gZa, gZb, gZc, gZd] at ho; subst ho; (try simp only [Act.put, sZa, sZb, sZc]); exact Or.inr ⟨by rfl, rfl⟩))
    try simp only [Act.put, sZa, sZb, sZc]
    refine tk 13 33 ?_ (by kernel_rfl) (fun _ _ _ h => h) ?_ hHeld (tk 14 6 ?_ (by kernel_rfl) (fun _ _ _ h => h) ?_ hHeld ?_)
    iterate 2 (rotate_left; focus (intro o ho; simp only [gZa, gZb, gZc, gZd] at ho; subst ho; refine Or.inl ⟨by rfl, ?_⟩; intro w hSw; (try dsimp only at hSw); (try simp only [Act.put, sZa, sZb, sZc]); go_simp; try with_reducible rfl))
    try simp only [Act.put, sZa, sZb, sZc]
    refine wpAnyH_done (by kernel_rfl) ?_ _
    go_wp2_with fail
    go_ret
    exact ⟨retB HF.out.symm, HB.out.drew⟩
theorem hasR {w : World} {bm n : Nat} {D : DataW Value} {G : Int → Value} {L : Int → List (Int × Int)} (h : GrpR w bm n D G L) (r q : Int) (hr : (Lit.int .i64 r).wf = true) (hs : Srt (L r)) (hl : (L r).length ≤ 1000000) :
    Calls Tryz.prog 121 #[.map (some bm), .agg #[.int .i64 r, .int .i64 q]] w fun e w' => e = .returned (.bool (inB (L r) q q)) ∧ Below w.heap.size w w' := by
  have b0 : Below w.heap.size w (w.alloc (.cells #[.int .i64 r, .int .i64 q] 87)) := (Below.refl _ _).alloc (Nat.le_refl _) _
  have HC := hid (holdsR (h.below b0) r q q hr hs hl)
  have HB := hid b0
  clear b0 h hs
  go_enter Tryz.func121, Tryz.ntmps121
  go_wp2_with fail
  refine HC.out.mono ?_
  rintro e w1 ⟨rfl, b1⟩
  have HZ := hid (keepS HB.out b1)
  clear b1 HC
  go_wp2_with fail
  go_ret
  exact ⟨rfl, HZ.out⟩
noncomputable def rdD (f : Nat → Int) (n x : Nat) : Option ((Nat × Nat) × Nat) := (rd f n x 7).bind fun a => (rd f n a.2 1000000000).bind fun b => some ((a.1, b.1), b.2)
theorem dotC (cb B : Nat) (a : Option Addr) (n c x : Nat) (f : Nat → Int) (aT aS aL aE : Addr) (w : World) (hn : n ≤ 1048576) (hf : Byt f) (hcur : Cur EX w cb a n c (x : Int)) (hs : Seg w a n f) (hab : ∀ y, a = some y → y.block ≠ cb) (hE : Errs w B aT aS aL aE) (hBc : B ≤ cb) :
    Calls Tryz.prog 104 #[.pointer (some ⟨cb, 0, none⟩)] w fun e w' => w.grownBy w' (some cb) ∧
      ((∃ r q x' : Nat, rdD f n x = some ((r, q), x') ∧ e = .returned (.tuple #[.agg #[.int .i64 (r : Int), .int .i64 (q : Int)], .nilIface]) ∧ Cur EX w' cb a n c (x' : Int)) ∨
       (rdD f n x = none ∧ ∃ (r q : Int) (t : TypeId) (v : Value) (y : Int), e = .returned (.tuple #[.agg #[.int .i64 r, .int .i64 q], .iface t v]) ∧ Cur EX w' cb a n c y)) := by
  have hcl := hcur.lt
  obtain ⟨W, hW⟩ : ∃ W, w.alloc (.cells #[.int .i64 0, .int .i64 0] 87) = W := ⟨_, rfl⟩
  have bW : Below w.heap.size w W := by rw [← hW]; exact (Below.refl _ _).alloc (Nat.le_refl _) _
  have zW : W.heap.size = w.heap.size + 1 := by rw [← hW]; simp
  have gW : w.grownBy W (some cb) := grown_below (grown_refl w (some cb)) bW
  have HB : Hid (∀ w1, W.grownBy w1 (some cb) → w1.cell? ⟨w.heap.size, 0, none⟩ = some (.int .i64 0) ∧ w1.cell? ⟨w.heap.size, 1, none⟩ = some (.int .i64 0) ∧ w1.frozen? ⟨w.heap.size, 0, none⟩ = false ∧ w1.frozen? ⟨w.heap.size, 1, none⟩ = false) := by
    intro w1 g
    have hb := g.block w.heap.size (by omega) (by simp; omega)
    refine ⟨?_, ?_, ?_, ?_⟩
    · rw [World.cell?_of_block hb, ← hW]; simp
    · rw [World.cell?_of_block hb, ← hW]; simp
    · have e : w1.frozen? ⟨w.heap.size, 0, none⟩ = W.frozen? ⟨w.heap.size, 0, none⟩ := by unfold World.frozen?; rw [hb]
      rw [e, ← hW]; simp
    · have e : w1.frozen? ⟨w.heap.size, 1, none⟩ = W.frozen? ⟨w.heap.size, 1, none⟩ := by unfold World.frozen?; rw [hb]
      rw [e, ← hW]; simp
  have hclW : cb < W.heap.size := by omega
  have HU := hid (numberC cb B a n c x 7 f aT aS aL aE W hn hf (hcur.below bW hcl) (hs.grown gW hab) hab (hE.grown gW hBc hcl) hBc (by omega) (by omega))
  have HE := hid (hE.grown gW hBc hcl)
  have HS := hid (hs.grown gW hab)
  have HW := hid gW
  clear hE hcur hs gW bW
  go_enter Tryz.func104, Tryz.ntmps104
  go_wp2_with fail
  try rw [hW]
  clear hW
  refine HU.out.mono ?_
  rintro e w1 ⟨g1, ⟨V, x1, hr, hV, rfl, cu⟩ | ⟨hr, t, v, y, rfl, cu⟩⟩
  · rw [rdI_nat] at hr
    have HU2 := hid (numberC cb B a n c x1 1000000000 f aT aS aL aE w1 hn hf cu (HS.out.grown g1 hab) hab (HE.out.grown g1 hBc hclW) hBc (by omega) (by omega))
    have HG := hid g1
    have HR := hid hr
    clear g1 hr cu HU HE
    go_wp2_with fail
    refine HU2.out.mono ?_
    rintro e w2 ⟨g2, ⟨M, x2, hr2, hM, rfl, cu2⟩ | ⟨hr2, t, v, y, rfl, cu2⟩⟩
    · rw [rdI_nat] at hr2
      obtain ⟨k0, k1, z0, z1⟩ := HB.out _ (grown_trans HG.out g2)
      have HG2 := hid (grown_trans HW.out (grown_trans HG.out g2))
      have HR2 := hid hr2
      have HC2 := hid cu2
      clear g2 hr2 cu2 HU2
      go_wp2_with fail
      obtain ⟨Z, hZ, q0, q1, HZ, HC3⟩ := box2 (.int .i64 ((V : Int))) (.int .i64 ((M : Int))) HG2.out HC2.out hcl k0 k1
      rw [← hZ]
      clear hZ
      refine bodyPost_ret (v := .tuple #[.agg #[.int .i64 ((V : Int)), .int .i64 ((M : Int))], .nilIface]) (by simp [results, Tryz.results104, go_sem, q0, q1]) rfl ⟨HZ, .inl ⟨V, M, x2, ?_, rfl, HC3⟩⟩
      unfold rdD
      rw [HR.out]
      simp only [Option.bind_some]
      rw [HR2.out]
      rfl
    · rw [rdI_nat] at hr2
      obtain ⟨k0, k1, z0, z1⟩ := HB.out _ (grown_trans HG.out g2)
      have HG2 := hid (grown_trans HW.out (grown_trans HG.out g2))
      have HR2 := hid hr2
      have HC2 := hid cu2
      clear g2 hr2 cu2 HU2
      go_wp2_with fail
      obtain ⟨Z, hZ, q0, q1, HZ, HC3⟩ := box2 (.int .i64 (V : Int)) (.int .i64 0) HG2.out HC2.out hcl k0 k1
      rw [← hZ]
      clear hZ
      refine bodyPost_ret (v := .tuple #[.agg #[.int .i64 (V : Int), .int .i64 0], .iface t v]) (by simp [results, Tryz.results104, go_sem, q0, q1]) rfl ⟨HZ, .inr ⟨?_, _, _, _, _, _, rfl, HC3⟩⟩
      unfold rdD
      rw [HR.out]
      simp only [Option.bind_some]
      rw [HR2.out]
      rfl
  · rw [rdI_nat] at hr
    obtain ⟨k0, k1, z0, z1⟩ := HB.out _ g1
    have HG := hid (grown_trans HW.out g1)
    have HR := hid hr
    have HC := hid cu
    clear g1 hr cu HU HE
    go_wp2_with fail
    obtain ⟨Z, hZ, q0, q1, HZ, HC3⟩ := box2 (.int .i64 0) (.int .i64 0) HG.out HC.out hcl k0 k1
    rw [← hZ]
    clear hZ
    refine bodyPost_ret (v := .tuple #[.agg #[.int .i64 0, .int .i64 0], .iface t v]) (by simp [results, Tryz.results104, go_sem, q0, q1]) rfl ⟨HZ, .inr ⟨?_, _, _, _, _, _, rfl, HC3⟩⟩
    unfold rdD
    rw [HR.out]
    rfl
structure UsD (w : World) (ub : Nat) (acc : List Lf) (D : DataW Value) : Prop where
  own : w.ownsMap Tryz.prog 87 allR ub acc.length D
  tidy : Tidy D
  has' : ∀ r q kl, keyOf Tryz.prog 87 (dotV r q) = some kl → (has D kl = true ↔ ∃ y ∈ acc, y.r = r ∧ y.q = q)
  sz : size D = acc.length
  val : ∀ r q kl, keyOf Tryz.prog 87 (dotV r q) = some kl → D.atKey kl (.held (.agg #[])) = .held (.agg #[])
def UsM (w : World) (ub : Nat) (acc : List Lf) : Prop := ∃ D, UsD w ub acc D
theorem UsM.same {w w' : World} {ub : Nat} {acc : List Lf} (h : UsM w ub acc) (e : w'.heap[ub]? = w.heap[ub]?) : UsM w' ub acc := by
  obtain ⟨D, h⟩ := h
  exact ⟨D, own_same h.own e, h.tidy, h.has', h.sz, h.val⟩
theorem UsM.lt {w : World} {ub : Nat} {acc : List Lf} (h : UsM w ub acc) : ub < w.heap.size := by
  obtain ⟨D, h⟩ := h; exact h.own.lt
theorem UsM.made (w : World) : UsM (w.alloc (.map #[] 0)) w.heap.size [] :=
  ⟨.map [], World.ownsMap_made w _ _ _, tidy_empty, fun r q kl hk => ⟨fun h => by simp [has] at h, fun ⟨y, hy, _⟩ => by simp at hy⟩, by simp [size], fun r q kl hk => rfl⟩
theorem UsD.step {w w' : World} {ub : Nat} {acc : List Lf} {D : DataW Value} {z : Lf} {kl : Lit} (h : UsD w ub acc D) (hk : keyOf Tryz.prog 87 (dotV z.r z.q) = some kl) (hf : ∀ y ∈ acc, ¬ (y.r = z.r ∧ y.q = z.q))
    (ho : w'.ownsMap Tryz.prog 87 allR ub (acc.length + 1) (D.put kl (.held (.agg #[])))) : UsD w' ub (acc ++ [z]) (D.put kl (.held (.agg #[]))) := by
  have hlit := dotKeyed.key hk
  have hsz := size_put (k := kl) h.tidy (.held (.agg #[]))
  have hn : ¬ has D kl = true := fun hh => by
    obtain ⟨y, hy, e⟩ := (h.has' _ _ _ hk).1 hh
    exact hf y hy e
  refine ⟨by simpa using ho, h.tidy.put hlit _, fun r q kl' hk' => ?_, ?_, fun r q kl' hk' => ?_⟩
  · by_cases e : kl' = kl
    · subst e
      obtain ⟨e1, e2⟩ := dotKey_inj hk hk'
      rw [has_put_same h.tidy.isMap hlit]
      exact ⟨fun _ => ⟨z, by simp, e1, e2⟩, fun _ => rfl⟩
    · rw [has_put_other e, h.has' r q kl' hk']
      constructor
      · rintro ⟨y, hy, r1⟩; exact ⟨y, by simp [hy], r1⟩
      · rintro ⟨y, hy, r1, r2⟩
        rcases List.mem_append.1 hy with hy | hy
        · exact ⟨y, hy, r1, r2⟩
        · simp at hy
          subst hy
          rw [r1, r2, hk'] at hk; injection hk with hk; exact absurd hk e
  · rw [hsz, if_neg hn, h.sz]; simp
  · by_cases e : kl' = kl
    · subst e; rw [atKey_put_same h.tidy.isMap hlit]
    · rw [atKey_put_other e]; exact h.val r q kl' hk'
end Go.Proofs.YtakmpmhjcngbbaaGreatDoor
