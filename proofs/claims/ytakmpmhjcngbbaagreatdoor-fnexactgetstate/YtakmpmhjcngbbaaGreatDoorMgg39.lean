import Derived.Test.YtakmpmhjcngbbaaGreatDoorMgg38
import Derived.Test.YtakmpmhjcngbbaaGreatDoorMgg30
import Derived.Test.YtakmpmhjcngbbaaGreatDoorMgg31
set_option linter.unusedVariables false
set_option linter.unusedSimpArgs false
set_option maxRecDepth 100000
set_option maxHeartbeats 40000000
namespace Go.Proofs.YtakmpmhjcngbbaaGreatDoor
open Go.ChangeShapes Go.WideShapes Go.ChangeAt Go.RowKit Go.Deep
def LsI (f : Nat → Int) (n : Nat) (fl : Bool) (p : List ByteArray) (acc : List Lf) (x V k y : Nat) (ok : Bool) (l : List Lf) : Prop :=
  (ok = true ∧ ldLv f n fl p acc x = ldLs f n fl p (V - k) l y ∧ l.length + x ≤ acc.length + y) ∨ (ok = false ∧ ldLv f n fl p acc x = none ∧ l.length + x ≤ acc.length + n + 1)
theorem LBd.snoc {l : List Lf} {y : Lf} (h : LBd l) (hy : y.p.length ≤ 8) : LBd (l ++ [y]) := fun i => by
  rcases Nat.lt_trichotomy i l.length with e | e | e
  · rw [gL_pre l y e]; exact h i
  · subst e; rw [gL_end]; omega
  · have : gL (l ++ [y]) i = gL [] 0 := by
      have hn : ¬ i < (l ++ [y]).length := by simp; omega
      simp [gL, List.getD, List.getElem?_eq_none (Nat.le_of_not_lt hn)]
    rw [this]; show ([] : List ByteArray).length ≤ 1048576; simp
theorem leafApp {wr w1 W Wz : World} {lo : Nat} {oa : Option Addr} {oc q m cap : Nat} {l : List Lf} {p : List ByteArray} (h : LB wr lo (.slice oa l.length oc) l) (hlo : lo ≤ wr.heap.size) (hk : l.length ≤ 1048576) (b1 : Below wr.heap.size wr w1) (hq : wr.heap.size ≤ q) (ho : w1.ownsRow wr.heap.size 9 1 (.slice (some ⟨q, 0, none⟩) m cap) m (sRow p)) (hp : p.length = m) (ob : Obj)
    (bW : Below (w1.heap.size + 1) (w1.alloc ob) W) (gz : W.grownBy Wz (some w1.heap.size)) (hsz : Wz.heap.size = W.heap.size) (fl : Bool) (r s : Int) (v : ByteArray) :
    ∃ q' cap' w3, (Builtin.append_ #[23, 23] 23 #[.slice oa l.length oc, .slice (some ⟨W.heap.size, 0, none⟩) 1 1]).run Tryz.prog (Wz.alloc (.cells #[.slice (some ⟨q, 0, none⟩) m cap, .bool fl, .int .i64 r, .int .i64 s, .string v] 89)) = .ok (.slice (some ⟨q', 0, none⟩) (l.length + 1) cap') w3 ∧
      LB w3 lo (.slice (some ⟨q', 0, none⟩) (l.length + 1) cap') (l ++ [⟨p, fl, r, s, v⟩]) ∧ Gr wr w3 (.slice oa l.length oc) (.slice (some ⟨q', 0, none⟩) (l.length + 1) cap') := by
  subst hp
  have hq2 := (World.ownsRow.lt ho q rfl).2
  have hwr := (own_way ho rfl).2
  have hcp : p.length ≤ cap ∧ cap ≤ 9223372036854775807 := by
    rcases ho.2 with ⟨h0, _⟩ | ⟨g', cap', cur, hv, hbase, hb, h1, h2, h3, h4⟩
    · cases h0
    · injection hv with e1 e2 e3
      unfold maxLen at h2
      omega
  have z1 := b1.size
  have zW := bW.size
  have bA : Below w1.heap.size w1 (w1.alloc ob) := (Below.refl _ _).alloc (Nat.le_refl _) _
  have bB : Below wr.heap.size wr Wz := by
    have e1 := b1.trans (bA.mono z1)
    have e2 := e1.trans (bW.mono (Nat.le_trans z1 (Nat.le_succ _)))
    exact e2.grown gz e2.size (fun k e => by injection e with e; omega)
  have zA : (w1.alloc ob).heap.size = w1.heap.size + 1 := by simp
  have hw2 : Wr Wz q 9 p.length (fun t => .string (gS p t)) := by
    have e1 := hwr.same (bA.block q hq2)
    have e2 := e1.same (bW.block q (by omega))
    exact e2.same (gz.block q (by omega) (fun e => by injection e with e; omega))
  obtain ⟨q', cap', w3, e1, e2, e3⟩ := h.app bB hlo hk ⟨p, fl, r, s, v⟩ q cap hq (by omega) hw2 hcp
  rw [hsz] at e1
  exact ⟨q', cap', w3, e1, e2, (Gr.of_below bB).trans e3⟩
theorem l4ReadLeavesC (a : Option Addr) (n c x : Nat) (f : Nat → Int) (g m pc : Nat) (p : List ByteArray) (fl : Bool) (oa0 : Option Addr) (oc0 : Nat) (acc : List Lf) (lo : Nat) (w : World) (hn : n ≤ 4000) (hnc : n ≤ c) (hf : Byt f) (hs : Seg w a n f) (hx : x ≤ n) (hp : p.length = m) (hm : m ≤ 8) (hg : g < w.heap.size) (hgc : ∀ t, t < m → w.cell? ⟨g, t, none⟩ = some (.string (gS p t)))
    (hgo : (Value.slice oa0 acc.length oc0).ownBlock ≠ some g) (hab : ∀ y, a = some y → (Value.slice oa0 acc.length oc0).ownBlock ≠ some y.block) (hL : LB w lo (.slice oa0 acc.length oc0) acc) (hB : LBd acc) (hlo : lo ≤ w.heap.size) (hacc : acc.length ≤ 10000) :
    Calls Tryz.prog 26 #[.slice a n c, .int .i64 (x : Int), .slice (some ⟨g, 0, none⟩) m pc, .bool fl, .slice oa0 acc.length oc0] w fun e w' => LdP w lo (.slice oa0 acc.length oc0) n x acc (ldLv f n fl p acc x) e w' := by
  obtain ⟨P, hP⟩ : ∃ P, LdP w lo (.slice oa0 acc.length oc0) n x acc (ldLv f n fl p acc x) = P := ⟨_, rfl⟩
  rw [hP]
  have HP := hid hP
  clear hP
  have HU : Hid (Calls Tryz.prog 23 #[.slice a n c, .int .i64 (x : Int), .int .i64 1000] w fun e w' => Below w.heap.size w w' ∧ ∃ (V y : Nat) (ok : Bool), e = .returned (.tuple #[.int .i64 (V : Int), .int .i64 (y : Int), .bool ok]) ∧ V ≤ 1000 ∧ y ≤ n ∧ LsI f n fl p acc x V 0 y ok acc) := hid (by
    refine (l2GetC a n c x 1000 f w (by omega) hf hs hx (by omega) (by omega)).mono ?_
    rintro e w' ⟨b, ⟨V, x', h1, h2, h3, rfl⟩ | ⟨h1, rfl⟩⟩
    · refine ⟨b, V, x', true, rfl, by omega, h3, .inl ⟨rfl, ?_, ?_⟩⟩
      · unfold ldLv; rw [h1]; rfl
      · have := (rd_step hf h1).1; simp at this; omega
    · refine ⟨b, 0, x, false, rfl, by omega, hx, .inr ⟨rfl, ?_, by omega⟩⟩
      unfold ldLv; rw [h1]; rfl)
  have HL := hid hL
  have HF := hid hf
  have HS := hid hs
  have HBd := hid hB
  have HG := hid (And.intro hg hgc)
  have HGO := hid (And.intro hgo hab)
  clear hL hf hs hB hgc hgo hab
  go_enter Tryz.func26, Tryz.ntmps26
  go_wp2_with fail
  refine HU.out.mono ?_
  clear HU
  rintro e w1 ⟨b1, V, y, ok, rfl, hV, hy, hI⟩
  have HI := hid hI
  have HB1 := hid b1
  have z1 := b1.size
  clear hI b1
  go_wp2_with fail
  go_loopw [4, 14, 15, 16] (fun ov av kv iv wr => ∃ (k y : Nat) (ok : Bool) (oa : Option Addr) (oc : Nat) (l : List Lf), k ≤ V ∧ iv = .int .i64 (k : Int) ∧ av = .int .i64 (y : Int) ∧ kv = .bool ok ∧ ov = .slice oa l.length oc ∧ y ≤ n ∧ l.length ≤ 20000 ∧ w.heap.size ≤ wr.heap.size ∧ Hid (LB wr lo (.slice oa l.length oc) l) ∧ Hid (Gr w wr (.slice oa0 acc.length oc0) (.slice oa l.length oc)) ∧ Hid (LBd l) ∧ Hid (LsI f n fl p acc x V k y ok l)) (fun _ _ _ iv _ => V - (intOf iv).toNat)
  case atStart => exact ⟨0, y, ok, oa0, oc0, acc, Nat.zero_le _, rfl, rfl, rfl, rfl, hy, by omega, z1, hid (HL.out.below HB1.out), hid (Gr.of_below HB1.out), HBd, HI⟩
  case round =>
    obtain ⟨k, y2, ok2, oa, oc, l, hkV, rfl, rfl, rfl, rfl, hy2, hll, hzr, hLB, hGr, hBd, hI⟩ := hrel
    cases ok2 with
    | false =>
      go_wp2_with fail
      refine bodyPost_ret (v := .tuple #[.slice oa l.length oc, .int .i64 (y2 : Int), .bool false]) (by simp [results, Tryz.results26, go_sem]) rfl ?_
      rw [← HP.out]
      obtain ⟨h, _⟩ | ⟨_, h1, h2⟩ := hI.out
      · cases h
      · exact ⟨_, l, y2, false, rfl, hGr.out, hLB.out, hBd.out, hy2, .inr ⟨rfl, h1, h2⟩⟩
    | true =>
      have hI2 : Hid (ldLv f n fl p acc x = ldLs f n fl p (V - k) l y2 ∧ l.length + x ≤ acc.length + y2) := hid (by
        obtain ⟨_, h⟩ | ⟨h, _⟩ := hI.out
        · exact h
        · cases h)
      by_cases hlt : k < V
      · obtain ⟨mm, hmm⟩ : ∃ mm, V - k = mm + 1 := ⟨V - k - 1, by omega⟩
        have HM := hid hmm
        clear hmm
        have HSr : Hid (∀ W', Below wr.heap.size wr W' → Seg W' a n f) := hid (fun W' b => Seg.below (Seg.keptR HS.out hGr.out.1 (fun y hy => HGO.out.2 y hy)) b)
        have HPa := hid (l3PathO g m pc p wr hp (by omega) (Nat.lt_of_lt_of_le HG.out.1 hzr) (fun t ht => (World.cell?_of_block (a := ⟨g, t, none⟩) (hGr.out.1.block g HG.out.1 (fun e => HGO.out.1 e.symm))).trans (HG.out.2 t ht)))
        go_wp2_with fail
        refine HPa.out.mono ?_
        clear HPa
        rintro e w2 ⟨q, cap, rfl, b2, hq, ho⟩
        have HOw := hid ho
        have HB2 := hid b2
        have HQ := hid hq
        clear ho b2 hq
        have b3 : Below w2.heap.size w2 (w2.alloc (.cells #[.slice (some ⟨q, 0, none⟩) m cap, .bool fl, .int .i64 0, .int .i64 0, .string ⟨#[]⟩] 89)) := (Below.refl _ _).alloc (Nat.le_refl _) _
        have HX3 : Hid (Bx5 (w2.alloc (.cells #[.slice (some ⟨q, 0, none⟩) m cap, .bool fl, .int .i64 0, .int .i64 0, .string ⟨#[]⟩] 89)) w2.heap.size (.slice (some ⟨q, 0, none⟩) m cap) (.bool fl) (.int .i64 0) (.int .i64 0) (.string ⟨#[]⟩)) := hid (Bx5.new _ _ _ _ _ _ _)
        have HB3 := hid (keepS HB2.out b3)
        have HR := hid (l2GetC a n c y2 8 f _ (by omega) HF.out (HSr.out _ HB3.out) hy2 (by omega) (by omega))
        clear b3
        go_wp2_with fail
        obtain ⟨W3, hW3⟩ : ∃ W3, w2.alloc (.cells #[.slice (some ⟨q, 0, none⟩) m cap, .bool fl, .int .i64 0, .int .i64 0, .string ⟨#[]⟩] 89) = W3 := ⟨_, rfl⟩
        have HZ3 : Hid (W3.heap.size = w2.heap.size + 1) := hid (by rw [← hW3]; simp)
        have HA3 := hid hW3
        rw [hW3] at HX3 HB3 HR ⊢
        clear hW3
        refine HR.out.mono ?_
        clear HR
        rintro e w4 ⟨b4, ⟨V1, x1, hr1, hv1, hx1, rfl⟩ | ⟨hr1, rfl⟩⟩
        · have HE1 := hid hr1
          have hs1 := rd_step HF.out hr1
          simp only at hs1
          have HQ2 := hid (l2GetC a n c x1 1000000000 f w4 (by omega) HF.out (HSr.out w4 (HB3.out.trans (b4.mono HB3.out.size))) hx1 (by omega) (by omega))
          have HB4 := hid b4
          clear hr1 b4
          go_wp2_with fail
          refine HQ2.out.mono ?_
          clear HQ2
          rintro e w5 ⟨b5, ⟨V2, x2, hr2, hv2, hx2, rfl⟩ | ⟨hr2, rfl⟩⟩
          · have HE2 := hid hr2
            have hs2 := rd_step HF.out hr2
            simp only at hs2
            have HB5 := hid (keepS HB4.out b5)
            clear hr2 b5
            cases fl with
            | true =>
              have bWW : Below W3.heap.size W3 w5 := HB5.out
              have X := HX3.out.below bWW (by have := HZ3.out; omega)
              have hsz : (((w5.setCell ⟨w2.heap.size, 2, none⟩ (.int .i64 (V1 : Int))).setCell ⟨w2.heap.size, 3, none⟩ (.int .i64 (V2 : Int)))).heap.size = w5.heap.size := by simp [World.setCell]
              have gz : w5.grownBy ((w5.setCell ⟨w2.heap.size, 2, none⟩ (.int .i64 (V1 : Int))).setCell ⟨w2.heap.size, 3, none⟩ (.int .i64 (V2 : Int))) (some w2.heap.size) := ⟨rfl, rfl, rfl, by simp [World.setCell], fun j hj hne => by
                have hj2 : j ≠ w2.heap.size := fun e => hne (by rw [e])
                exact (Below.heap_setCell _ _ _ _ hj2).trans (Below.heap_setCell _ _ _ _ hj2)⟩
              obtain ⟨q', cap', w9, happ, hLB9, hGr9⟩ := leafApp hLB.out (Nat.le_trans hlo hzr) (by omega) HB2.out HQ.out HOw.out hp _ (by rw [HA3.out]; have := HZ3.out; rw [← this]; exact bWW) gz hsz true (V1 : Int) (V2 : Int) ⟨#[]⟩
              have HL9 : Hid (LB w9 lo (.slice (some ⟨q', 0, none⟩) (l ++ [(⟨p, true, (V1 : Int), (V2 : Int), ⟨#[]⟩⟩ : Lf)]).length cap') (l ++ [⟨p, true, (V1 : Int), (V2 : Int), ⟨#[]⟩⟩])) := hid (by rw [List.length_append, List.length_singleton]; exact hLB9)
              have HG9 : Hid (Gr w w9 (.slice oa0 acc.length oc0) (.slice (some ⟨q', 0, none⟩) (l ++ [(⟨p, true, (V1 : Int), (V2 : Int), ⟨#[]⟩⟩ : Lf)]).length cap')) := hid (by rw [List.length_append, List.length_singleton]; exact hGr.out.trans hGr9)
              have HI9 : Hid (LsI f n true p acc x V (k + 1) x2 true (l ++ [⟨p, true, (V1 : Int), (V2 : Int), ⟨#[]⟩⟩])) := hid (by
                refine .inl ⟨rfl, ?_, ?_⟩
                · rw [hI2.out.1, HM.out, show V - (k + 1) = mm by have := HM.out; omega]
                  show (ldLf f n true p y2).bind _ = _
                  unfold ldLf
                  rw [HE1.out]
                  simp only [Option.bind_some]
                  rw [HE2.out]
                  rfl
                · have h2 := hI2.out.2
                  simp only [List.length_append, List.length_singleton]
                  omega)
              have HBd9 := hid (hBd.out.snoc (y := ⟨p, true, (V1 : Int), (V2 : Int), ⟨#[]⟩⟩) (by show p.length ≤ 8; omega))
              have hz9 : w.heap.size ≤ w9.heap.size := HG9.out.1.size
              have hll9 : (l ++ [(⟨p, true, (V1 : Int), (V2 : Int), ⟨#[]⟩⟩ : Lf)]).length ≤ 20000 := by
                obtain ⟨_, _, h⟩ | ⟨_, _, h⟩ := HI9.out <;> omega
              have c0 := X.c0
              have c1 := X.c1
              have c2 := X.c2
              have c3 := X.c3
              have c4 := X.c4
              have cf := X.f
              clear X hsz gz hLB9 hGr9 hLB hGr hI2 hI HSr HOw HB2 HX3 HB3 HM bWW
              go_wp2_with (at_builtin; refine wpList_app2 rfl _ _ _ _ rfl happ (by rfl) (by rfl) rfl ?_; clear happ)
              go_roundw
              case rel => exact ⟨k + 1, x2, true, some ⟨q', 0, none⟩, cap', l ++ [⟨p, true, (V1 : Int), (V2 : Int), ⟨#[]⟩⟩], hlt, by go_num, rfl, rfl, by simp, by omega, hll9, hz9, HL9, HG9, HBd9, HI9⟩
              case measure => simp [intOf]; omega
            | false =>
              have HTx := hid (getTextC a n c x2 200 f w5 (by omega) hnc HF.out (HSr.out w5 (HB3.out.trans (HB5.out.mono HB3.out.size))) hx2 (by omega) (by omega))
              go_wp2_with fail
              refine HTx.out.mono ?_
              clear HTx
              rintro e w6 ⟨b6, ⟨s, x3, ht, hx23, hx3, hss, rfl⟩ | ⟨ht, kc, hk0, hk4, rfl⟩⟩
              · have HE3 := hid ht
                have bWW : Below W3.heap.size W3 w6 := keepS HB5.out b6
                clear ht b6
                have X := HX3.out.below bWW (by have := HZ3.out; omega)
                have hsz : ((((w6.setCell ⟨w2.heap.size, 4, none⟩ (.string s)).setCell ⟨w2.heap.size, 2, none⟩ (.int .i64 (V1 : Int))).setCell ⟨w2.heap.size, 3, none⟩ (.int .i64 (V2 : Int)))).heap.size = w6.heap.size := by simp [World.setCell]
                have gz : w6.grownBy (((w6.setCell ⟨w2.heap.size, 4, none⟩ (.string s)).setCell ⟨w2.heap.size, 2, none⟩ (.int .i64 (V1 : Int))).setCell ⟨w2.heap.size, 3, none⟩ (.int .i64 (V2 : Int))) (some w2.heap.size) := ⟨rfl, rfl, rfl, by simp [World.setCell], fun j hj hne => by
                  have hj2 : j ≠ w2.heap.size := fun e => hne (by rw [e])
                  exact (Below.heap_setCell _ _ _ _ hj2).trans ((Below.heap_setCell _ _ _ _ hj2).trans (Below.heap_setCell _ _ _ _ hj2))⟩
                obtain ⟨q', cap', w9, happ, hLB9, hGr9⟩ := leafApp hLB.out (Nat.le_trans hlo hzr) (by omega) HB2.out HQ.out HOw.out hp _ (by rw [HA3.out]; have := HZ3.out; rw [← this]; exact bWW) gz hsz false (V1 : Int) (V2 : Int) s
                have HL9 : Hid (LB w9 lo (.slice (some ⟨q', 0, none⟩) (l ++ [(⟨p, false, (V1 : Int), (V2 : Int), s⟩ : Lf)]).length cap') (l ++ [⟨p, false, (V1 : Int), (V2 : Int), s⟩])) := hid (by rw [List.length_append, List.length_singleton]; exact hLB9)
                have HG9 : Hid (Gr w w9 (.slice oa0 acc.length oc0) (.slice (some ⟨q', 0, none⟩) (l ++ [(⟨p, false, (V1 : Int), (V2 : Int), s⟩ : Lf)]).length cap')) := hid (by rw [List.length_append, List.length_singleton]; exact hGr.out.trans hGr9)
                have HI9 : Hid (LsI f n false p acc x V (k + 1) x3 true (l ++ [⟨p, false, (V1 : Int), (V2 : Int), s⟩])) := hid (by
                  refine .inl ⟨rfl, ?_, ?_⟩
                  · rw [hI2.out.1, HM.out, show V - (k + 1) = mm by have := HM.out; omega]
                    show (ldLf f n false p y2).bind _ = _
                    unfold ldLf
                    rw [HE1.out]
                    simp only [Option.bind_some]
                    rw [HE2.out]
                    simp only [Option.bind_some]
                    rw [if_neg (by simp), HE3.out]
                    rfl
                  · have h2 := hI2.out.2
                    simp only [List.length_append, List.length_singleton]
                    omega)
                have HBd9 := hid (hBd.out.snoc (y := ⟨p, false, (V1 : Int), (V2 : Int), s⟩) (by show p.length ≤ 8; omega))
                have hz9 : w.heap.size ≤ w9.heap.size := HG9.out.1.size
                have hll9 : (l ++ [(⟨p, false, (V1 : Int), (V2 : Int), s⟩ : Lf)]).length ≤ 20000 := by
                  obtain ⟨_, _, h⟩ | ⟨_, _, h⟩ := HI9.out <;> omega
                have c0 := X.c0
                have c1 := X.c1
                have c2 := X.c2
                have c3 := X.c3
                have c4 := X.c4
                have cf := X.f
                clear X hsz gz hLB9 hGr9 hLB hGr hI2 hI HSr HOw HB2 HX3 HB3 HM bWW
                go_wp2_with (at_builtin; refine wpList_app2 rfl _ _ _ _ rfl happ (by rfl) (by rfl) rfl ?_; clear happ)
                go_roundw
                case rel => exact ⟨k + 1, x3, true, some ⟨q', 0, none⟩, cap', l ++ [⟨p, false, (V1 : Int), (V2 : Int), s⟩], hlt, by go_num, rfl, rfl, by simp, by omega, hll9, hz9, HL9, HG9, HBd9, HI9⟩
                case measure => simp [intOf]; omega
              · have HE3 := hid ht
                have bWW : Below W3.heap.size W3 w6 := keepS HB5.out b6
                have hkc : ((kc : Int) == 0) = false := by simp; omega
                clear ht b6
                have X := HX3.out.below bWW (by have := HZ3.out; omega)
                have hsz : ((((w6.setCell ⟨w2.heap.size, 4, none⟩ (.string ⟨#[]⟩)).setCell ⟨w2.heap.size, 2, none⟩ (.int .i64 (V1 : Int))).setCell ⟨w2.heap.size, 3, none⟩ (.int .i64 (V2 : Int)))).heap.size = w6.heap.size := by simp [World.setCell]
                have gz : w6.grownBy (((w6.setCell ⟨w2.heap.size, 4, none⟩ (.string ⟨#[]⟩)).setCell ⟨w2.heap.size, 2, none⟩ (.int .i64 (V1 : Int))).setCell ⟨w2.heap.size, 3, none⟩ (.int .i64 (V2 : Int))) (some w2.heap.size) := ⟨rfl, rfl, rfl, by simp [World.setCell], fun j hj hne => by
                  have hj2 : j ≠ w2.heap.size := fun e => hne (by rw [e])
                  exact (Below.heap_setCell _ _ _ _ hj2).trans ((Below.heap_setCell _ _ _ _ hj2).trans (Below.heap_setCell _ _ _ _ hj2))⟩
                obtain ⟨q', cap', w9, happ, hLB9, hGr9⟩ := leafApp hLB.out (Nat.le_trans hlo hzr) (by omega) HB2.out HQ.out HOw.out hp _ (by rw [HA3.out]; have := HZ3.out; rw [← this]; exact bWW) gz hsz false (V1 : Int) (V2 : Int) ⟨#[]⟩
                have HL9 : Hid (LB w9 lo (.slice (some ⟨q', 0, none⟩) (l ++ [(⟨p, false, (V1 : Int), (V2 : Int), ⟨#[]⟩⟩ : Lf)]).length cap') (l ++ [⟨p, false, (V1 : Int), (V2 : Int), ⟨#[]⟩⟩])) := hid (by rw [List.length_append, List.length_singleton]; exact hLB9)
                have HG9 : Hid (Gr w w9 (.slice oa0 acc.length oc0) (.slice (some ⟨q', 0, none⟩) (l ++ [(⟨p, false, (V1 : Int), (V2 : Int), ⟨#[]⟩⟩ : Lf)]).length cap')) := hid (by rw [List.length_append, List.length_singleton]; exact hGr.out.trans hGr9)
                have HI9 : Hid (LsI f n false p acc x V (k + 1) x2 false (l ++ [⟨p, false, (V1 : Int), (V2 : Int), ⟨#[]⟩⟩])) := hid (by
                  refine .inr ⟨rfl, ?_, ?_⟩
                  · rw [hI2.out.1, HM.out]
                    show (ldLf f n false p y2).bind _ = _
                    unfold ldLf
                    rw [HE1.out]
                    simp only [Option.bind_some]
                    rw [HE2.out]
                    simp only [Option.bind_some]
                    rw [if_neg (by simp), HE3.out]
                    rfl
                  · have h2 := hI2.out.2
                    simp only [List.length_append, List.length_singleton]
                    omega)
                have HBd9 := hid (hBd.out.snoc (y := ⟨p, false, (V1 : Int), (V2 : Int), ⟨#[]⟩⟩) (by show p.length ≤ 8; omega))
                have hz9 : w.heap.size ≤ w9.heap.size := HG9.out.1.size
                have hll9 : (l ++ [(⟨p, false, (V1 : Int), (V2 : Int), ⟨#[]⟩⟩ : Lf)]).length ≤ 20000 := by
                  obtain ⟨_, _, h⟩ | ⟨_, _, h⟩ := HI9.out <;> omega
                have c0 := X.c0
                have c1 := X.c1
                have c2 := X.c2
                have c3 := X.c3
                have c4 := X.c4
                have cf := X.f
                clear X hsz gz hLB9 hGr9 hLB hGr hI2 hI HSr HOw HB2 HX3 HB3 HM bWW
                go_wp2_with (at_builtin; refine wpList_app2 rfl _ _ _ _ rfl happ (by rfl) (by rfl) rfl ?_; clear happ)
                go_roundw
                case rel => exact ⟨k + 1, x2, false, some ⟨q', 0, none⟩, cap', l ++ [⟨p, false, (V1 : Int), (V2 : Int), ⟨#[]⟩⟩], hlt, by go_num, rfl, rfl, by simp, by omega, hll9, hz9, HL9, HG9, HBd9, HI9⟩
                case measure => simp [intOf]; omega
          · have HE2 := hid hr2
            have bWW : Below W3.heap.size W3 w5 := keepS HB4.out b5
            clear hr2 b5
            have X := HX3.out.below bWW (by have := HZ3.out; omega)
            have hsz : (((w5.setCell ⟨w2.heap.size, 2, none⟩ (.int .i64 (V1 : Int))).setCell ⟨w2.heap.size, 3, none⟩ (.int .i64 0))).heap.size = w5.heap.size := by simp [World.setCell]
            have gz : w5.grownBy ((w5.setCell ⟨w2.heap.size, 2, none⟩ (.int .i64 (V1 : Int))).setCell ⟨w2.heap.size, 3, none⟩ (.int .i64 0)) (some w2.heap.size) := ⟨rfl, rfl, rfl, by simp [World.setCell], fun j hj hne => by
              have hj2 : j ≠ w2.heap.size := fun e => hne (by rw [e])
              exact (Below.heap_setCell _ _ _ _ hj2).trans (Below.heap_setCell _ _ _ _ hj2)⟩
            obtain ⟨q', cap', w9, happ, hLB9, hGr9⟩ := leafApp hLB.out (Nat.le_trans hlo hzr) (by omega) HB2.out HQ.out HOw.out hp _ (by rw [HA3.out]; have := HZ3.out; rw [← this]; exact bWW) gz hsz fl (V1 : Int) 0 ⟨#[]⟩
            have HL9 : Hid (LB w9 lo (.slice (some ⟨q', 0, none⟩) (l ++ [(⟨p, fl, (V1 : Int), 0, ⟨#[]⟩⟩ : Lf)]).length cap') (l ++ [⟨p, fl, (V1 : Int), 0, ⟨#[]⟩⟩])) := hid (by rw [List.length_append, List.length_singleton]; exact hLB9)
            have HG9 : Hid (Gr w w9 (.slice oa0 acc.length oc0) (.slice (some ⟨q', 0, none⟩) (l ++ [(⟨p, fl, (V1 : Int), 0, ⟨#[]⟩⟩ : Lf)]).length cap')) := hid (by rw [List.length_append, List.length_singleton]; exact hGr.out.trans hGr9)
            have HI9 : Hid (LsI f n fl p acc x V (k + 1) x1 false (l ++ [⟨p, fl, (V1 : Int), 0, ⟨#[]⟩⟩])) := hid (by
              refine .inr ⟨rfl, ?_, ?_⟩
              · rw [hI2.out.1, HM.out]
                show (ldLf f n fl p y2).bind _ = _
                unfold ldLf
                rw [HE1.out]
                simp only [Option.bind_some]
                rw [HE2.out]
                rfl
              · have h2 := hI2.out.2
                simp only [List.length_append, List.length_singleton]
                omega)
            have HBd9 := hid (hBd.out.snoc (y := ⟨p, fl, (V1 : Int), 0, ⟨#[]⟩⟩) (by show p.length ≤ 8; omega))
            have hz9 : w.heap.size ≤ w9.heap.size := HG9.out.1.size
            have hll9 : (l ++ [(⟨p, fl, (V1 : Int), 0, ⟨#[]⟩⟩ : Lf)]).length ≤ 20000 := by
              obtain ⟨_, _, h⟩ | ⟨_, _, h⟩ := HI9.out <;> omega
            have c0 := X.c0
            have c1 := X.c1
            have c2 := X.c2
            have c3 := X.c3
            have c4 := X.c4
            have cf := X.f
            clear X hsz gz hLB9 hGr9 hLB hGr hI2 hI HSr HOw HB2 HX3 HB3 HM bWW
            go_wp2_with (at_builtin; refine wpList_app2 rfl _ _ _ _ rfl happ (by rfl) (by rfl) rfl ?_; clear happ)
            go_roundw
            case rel => exact ⟨k + 1, x1, false, some ⟨q', 0, none⟩, cap', l ++ [⟨p, fl, (V1 : Int), 0, ⟨#[]⟩⟩], hlt, by go_num, rfl, rfl, by simp, by omega, hll9, hz9, HL9, HG9, HBd9, HI9⟩
            case measure => simp [intOf]; omega
        · have HE1 := hid hr1
          clear hr1
          have bWW : Below W3.heap.size W3 w4 := b4
          clear b4
          have X := HX3.out.below bWW (by have := HZ3.out; omega)
          have hsz : (((w4.setCell ⟨w2.heap.size, 2, none⟩ (.int .i64 0)).setCell ⟨w2.heap.size, 3, none⟩ (.int .i64 0))).heap.size = w4.heap.size := by simp [World.setCell]
          have gz : w4.grownBy ((w4.setCell ⟨w2.heap.size, 2, none⟩ (.int .i64 0)).setCell ⟨w2.heap.size, 3, none⟩ (.int .i64 0)) (some w2.heap.size) := ⟨rfl, rfl, rfl, by simp [World.setCell], fun j hj hne => by
            have hj2 : j ≠ w2.heap.size := fun e => hne (by rw [e])
            exact (Below.heap_setCell _ _ _ _ hj2).trans (Below.heap_setCell _ _ _ _ hj2)⟩
          obtain ⟨q', cap', w9, happ, hLB9, hGr9⟩ := leafApp hLB.out (Nat.le_trans hlo hzr) (by omega) HB2.out HQ.out HOw.out hp _ (by rw [HA3.out]; have := HZ3.out; rw [← this]; exact bWW) gz hsz fl 0 0 ⟨#[]⟩
          have HL9 : Hid (LB w9 lo (.slice (some ⟨q', 0, none⟩) (l ++ [(⟨p, fl, 0, 0, ⟨#[]⟩⟩ : Lf)]).length cap') (l ++ [⟨p, fl, 0, 0, ⟨#[]⟩⟩])) := hid (by rw [List.length_append, List.length_singleton]; exact hLB9)
          have HG9 : Hid (Gr w w9 (.slice oa0 acc.length oc0) (.slice (some ⟨q', 0, none⟩) (l ++ [(⟨p, fl, 0, 0, ⟨#[]⟩⟩ : Lf)]).length cap')) := hid (by rw [List.length_append, List.length_singleton]; exact hGr.out.trans hGr9)
          have HI9 : Hid (LsI f n fl p acc x V (k + 1) y2 false (l ++ [⟨p, fl, 0, 0, ⟨#[]⟩⟩])) := hid (by
            refine .inr ⟨rfl, ?_, ?_⟩
            · rw [hI2.out.1, HM.out]
              show (ldLf f n fl p y2).bind _ = _
              unfold ldLf
              rw [HE1.out]
              rfl
            · have h2 := hI2.out.2
              simp only [List.length_append, List.length_singleton]
              omega)
          have HBd9 := hid (hBd.out.snoc (y := ⟨p, fl, 0, 0, ⟨#[]⟩⟩) (by show p.length ≤ 8; omega))
          have hz9 : w.heap.size ≤ w9.heap.size := HG9.out.1.size
          have hll9 : (l ++ [(⟨p, fl, 0, 0, ⟨#[]⟩⟩ : Lf)]).length ≤ 20000 := by
            obtain ⟨_, _, h⟩ | ⟨_, _, h⟩ := HI9.out <;> omega
          have c0 := X.c0
          have c1 := X.c1
          have c2 := X.c2
          have c3 := X.c3
          have c4 := X.c4
          have cf := X.f
          clear X hsz gz hLB9 hGr9 hLB hGr hI2 hI HSr HOw HB2 HX3 HB3 HM bWW
          go_wp2_with (at_builtin; refine wpList_app2 rfl _ _ _ _ rfl happ (by rfl) (by rfl) rfl ?_; clear happ)
          go_roundw
          case rel => exact ⟨k + 1, y2, false, some ⟨q', 0, none⟩, cap', l ++ [⟨p, fl, 0, 0, ⟨#[]⟩⟩], hlt, by go_num, rfl, rfl, by simp, by omega, hll9, hz9, HL9, HG9, HBd9, HI9⟩
          case measure => simp [intOf]; omega
      · obtain rfl : k = V := by omega
        go_wp2_with fail
        refine bodyPost_ret (v := .tuple #[.slice oa l.length oc, .int .i64 (y2 : Int), .bool true]) (by simp [results, Tryz.results26, go_sem]) rfl ?_
        rw [← HP.out]
        refine ⟨_, l, y2, true, rfl, hGr.out, hLB.out, hBd.out, hy2, .inl ⟨rfl, ?_, hI2.out.2⟩⟩
        rw [hI2.out.1, Nat.sub_self]
        rfl
structure SpA (w : World) (a : Option Addr) (n : Nat) (f : Nat → Int) (x g : Nat) (p : List ByteArray) (vo : Value) (acc : List Lf) (lo : Nat) : Prop where
  sg : Seg w a n f
  hx : x ≤ n
  gl : g < w.heap.size
  gc : ∀ t, t < p.length → w.cell? ⟨g, t, none⟩ = some (.string (gS p t))
  go : vo.ownBlock ≠ some g
  ab : ∀ y, a = some y → vo.ownBlock ≠ some y.block
  lb : LB w lo vo acc
  bd : LBd acc
  lo' : lo ≤ w.heap.size
  ac : acc.length ≤ x
def TsI (R : Option (List Lf × Nat)) (S : Nat → List Lf → Nat → Option (List Lf × Nat)) (n : Nat) (acc : List Lf) (x V k y : Nat) (ok : Bool) (l : List Lf) : Prop :=
  (ok = true ∧ R = S (V - k) l y ∧ l.length + x ≤ acc.length + y) ∨ (ok = false ∧ R = none ∧ l.length + x ≤ acc.length + n + 1)
theorem treeStepS (a : Option Addr) (n c : Nat) (f : Nat → Int) (lo d : Nat) (p : List ByteArray) (hpd : p.length + d = 8) (hn : n ≤ 4000) (hnc : n ≤ c) (hf : Byt f)
    (hrec : p.length < 8 → ∀ (s : ByteArray) (x g pc : Nat) (oa : Option Addr) (oc : Nat) (acc : List Lf) (W : World), SpA W a n f x g (p ++ [s]) (.slice oa acc.length oc) acc lo → Calls Tryz.prog 13 #[.slice a n c, .int .i64 (x : Int), .slice (some ⟨g, 0, none⟩) (p.length + 1) pc, .slice oa acc.length oc] W fun e w' => LdP W lo (.slice oa acc.length oc) n x acc (ldTr f n d (p ++ [s]) acc x) e w')
    (x g pc : Nat) (oa0 : Option Addr) (oc0 : Nat) (acc : List Lf) (w : World) (hA : SpA w a n f x g p (.slice oa0 acc.length oc0) acc lo) :
    Calls Tryz.prog 13 #[.slice a n c, .int .i64 (x : Int), .slice (some ⟨g, 0, none⟩) p.length pc, .slice oa0 acc.length oc0] w fun e w' => LdP w lo (.slice oa0 acc.length oc0) n x acc (ldTr f n (d + 1) p acc x) e w' := by
  obtain ⟨P, hP⟩ : ∃ P, LdP w lo (.slice oa0 acc.length oc0) n x acc (ldTr f n (d + 1) p acc x) = P := ⟨_, rfl⟩
  rw [hP]
  have HP := hid hP
  clear hP
  obtain ⟨R, hR⟩ : ∃ R, ldTr f n (d + 1) p acc x = R := ⟨_, rfl⟩
  have HR := hid hR
  rw [hR] at HP
  clear hR
  have hx := hA.hx
  have HU : Hid (Calls Tryz.prog 23 #[.slice a n c, .int .i64 (x : Int), .int .i64 4000] w fun e w' => Below w.heap.size w w' ∧ ∃ (V y : Nat) (ok : Bool), e = .returned (.tuple #[.int .i64 (V : Int), .int .i64 (y : Int), .bool ok]) ∧ V ≤ 4000 ∧ y ≤ n ∧ (p.length < 8 → TsI R (ldKs f n (ldTr f n d) p) n acc x V 0 y ok acc)) := hid (by
    refine (l2GetC a n c x 4000 f w (by omega) hf hA.sg hx (by omega) (by omega)).mono ?_
    rintro e w' ⟨b, ⟨V, x', h1, h2, h3, rfl⟩ | ⟨h1, rfl⟩⟩
    · refine ⟨b, V, x', true, rfl, by omega, h3, fun hp8 => .inl ⟨rfl, ?_, ?_⟩⟩
      · rw [← HR.out]; unfold ldTr; rw [h1]; simp only [Option.bind_some]; rw [if_neg (by omega)]; rfl
      · have := (rd_step hf h1).1; simp at this; omega
    · refine ⟨b, 0, x, false, rfl, by omega, hx, fun hp8 => .inr ⟨rfl, ?_, by omega⟩⟩
      rw [← HR.out]; unfold ldTr; rw [h1]; rfl)
  have hac := hA.ac
  have HRec := hid hrec
  have HF := hid hf
  have HA := hid hA
  have HPD := hid hpd
  obtain ⟨m, hm⟩ : ∃ m, p.length = m := ⟨_, rfl⟩
  have HM := hid hm
  rw [hm] at hpd ⊢
  clear hrec hf hA hm
  go_enter Tryz.func13, Tryz.ntmps13
  go_wp2_with fail
  refine HU.out.mono ?_
  clear HU
  rintro e w1 ⟨b1, V, y, ok, rfl, hV, hy, hI⟩
  have HI := hid hI
  have HB1 := hid b1
  have z1 := b1.size
  clear hI b1
  by_cases hm8 : 8 ≤ m
  · have HN : Hid (R = none) := hid (by
      have e := HM.out
      rw [← HR.out]
      unfold ldTr
      cases rd f n x 4000 with
      | none => rfl
      | some u => simp only [Option.bind_some]; rw [if_pos (by omega)])
    have hm8' : (8 : Int) ≤ (m : Int) := by omega
    clear HI
    go_wp2_with fail
    refine bodyPost_ret (v := .tuple #[.slice oa0 acc.length oc0, .int .i64 (x : Int), .bool false]) (by simp [results, Tryz.results13, go_sem]) rfl ?_
    rw [← HP.out]
    exact ⟨_, acc, x, false, rfl, Gr.of_below HB1.out, HA.out.lb.below HB1.out, HA.out.bd, hx, .inr ⟨rfl, HN.out, by omega⟩⟩
  · have hm8' : ¬ (8 : Int) ≤ (m : Int) := by omega
    have hp8 : p.length < 8 := by have := HM.out; omega
    have HI2 := hid (HI.out hp8)
    clear HI
    go_wp2_with fail
    go_loopw [3, 12, 13, 14] (fun ov av kv iv wr => ∃ (k y : Nat) (ok : Bool) (oa : Option Addr) (oc : Nat) (l : List Lf), k ≤ V ∧ iv = .int .i64 (k : Int) ∧ av = .int .i64 (y : Int) ∧ kv = .bool ok ∧ ov = .slice oa l.length oc ∧ y ≤ n ∧ w.heap.size ≤ wr.heap.size ∧ Hid (LB wr lo (.slice oa l.length oc) l) ∧ Hid (Gr w wr (.slice oa0 acc.length oc0) (.slice oa l.length oc)) ∧ Hid (LBd l) ∧ Hid (TsI R (ldKs f n (ldTr f n d) p) n acc x V k y ok l)) (fun _ _ _ iv _ => V - (intOf iv).toNat)
    case atStart => exact ⟨0, y, ok, oa0, oc0, acc, Nat.zero_le _, rfl, rfl, rfl, rfl, hy, z1, hid (HA.out.lb.below HB1.out), hid (Gr.of_below HB1.out), hid HA.out.bd, HI2⟩
    case round =>
      obtain ⟨k, y2, ok2, oa, oc, l, hkV, rfl, rfl, rfl, rfl, hy2, hzr, hLB, hGr, hBd, hI⟩ := hrel
      cases ok2 with
      | false =>
        go_wp2_with fail
        refine bodyPost_ret (v := .tuple #[.slice oa l.length oc, .int .i64 (y2 : Int), .bool false]) (by simp [results, Tryz.results13, go_sem]) rfl ?_
        rw [← HP.out]
        obtain ⟨h, _⟩ | ⟨_, h1, h2⟩ := hI.out
        · cases h
        · exact ⟨_, l, y2, false, rfl, hGr.out, hLB.out, hBd.out, hy2, .inr ⟨rfl, h1, h2⟩⟩
      | true =>
        have hI2 : Hid (R = ldKs f n (ldTr f n d) p (V - k) l y2) := hid (by
          obtain ⟨_, h, _⟩ | ⟨h, _⟩ := hI.out
          · exact h
          · cases h)
        have hlen : l.length + x ≤ acc.length + y2 := by
          obtain ⟨_, _, h⟩ | ⟨h, _⟩ := hI.out
          · exact h
          · cases h
        clear hI
        by_cases hlt : k < V
        · obtain ⟨mm, hmm⟩ : ∃ mm, V - k = mm + 1 := ⟨V - k - 1, by omega⟩
          have HMM := hid hmm
          clear hmm
          have HSr : Hid (∀ W', Below wr.heap.size wr W' → Seg W' a n f) := hid (fun W' b => Seg.below (Seg.keptR HA.out.sg hGr.out.1 (fun y hy => HA.out.ab y hy)) b)
          have HTx := hid (getTextC a n c y2 40 f wr (by omega) hnc HF.out (HSr.out wr (Below.refl _ _)) hy2 (by omega) (by omega))
          have HFl : Hid (∀ W', Below wr.heap.size wr W' → R = none → P (.returned (.tuple #[.slice oa l.length oc, .int .i64 (x : Int), .bool false])) W') := hid (fun W' b hN => by
            rw [← HP.out]
            exact ⟨_, l, x, false, rfl, hGr.out.trans (Gr.of_below b), hLB.out.below b, hBd.out, hx, .inr ⟨rfl, hN, by omega⟩⟩)
          go_wp2_with fail
          refine HTx.out.mono ?_
          clear HTx
          rintro e w2 ⟨b2, ⟨s, x1, ht, hx12, hx1, hss, rfl⟩ | ⟨ht, kc, hk0, hk4, rfl⟩⟩
          · have HT := hid ht
            have HB2 := hid b2
            clear ht b2
            by_cases hxn : x1 < n
            · obtain ⟨kv, hkv⟩ : ∃ kv, f x1 = kv := ⟨_, rfl⟩
              have HStep : Hid (R = (ldKd f n (ldTr f n d) p (s, kv) l (x1 + 1)).bind fun b => ldKs f n (ldTr f n d) p (V - (k + 1)) b.1 b.2) := hid (by
                have e := HMM.out
                rw [hI2.out, e, show V - (k + 1) = mm by omega]
                show (rdTx f n y2 40).bind _ = _
                rw [HT.out]
                simp only [Option.bind_some]
                rw [if_pos hxn, hkv])
              have hfb := HF.out x1
              rw [hkv] at hfb
              obtain ⟨fb0, fb1⟩ := hfb
              obtain ⟨ab, ao, ha, hab, hcs⟩ := (HSr.out w2 HB2.out).resolve_left (by omega)
              subst ha
              have cx := hcs x1 hxn
              rw [hkv] at cx
              have i1 : (0 : Int) ≤ (x1 : Int) := Int.natCast_nonneg _
              have i2 : (x1 : Int) < (n : Int) := by omega
              have i3 : ¬ (n : Int) ≤ (x1 : Int) := by omega
              have HPa := hid (l3PathO g m pc p w2 HM.out (by omega) (Nat.lt_of_lt_of_le (Nat.lt_of_lt_of_le HA.out.gl hzr) HB2.out.size) (fun t ht => (HB2.out.cell (p := ⟨g, t, none⟩) (Nat.lt_of_lt_of_le HA.out.gl hzr)).trans ((World.cell?_of_block (a := ⟨g, t, none⟩) (hGr.out.1.block g HA.out.gl (fun e => HA.out.go e.symm))).trans (HA.out.gc t (by have := HM.out; omega)))))
              clear hcs hab
              go_wp2_with fail
              clear cx
              refine HPa.out.mono ?_
              clear HPa
              rintro e w3 ⟨q, cap, rfl, b3, hq, ho⟩
              have HB3 := hid (keepS HB2.out b3)
              have zz2 := HB2.out.size
              have zz3 := b3.size
              have hcell : (w3.alloc (.cells #[.string s] 9)).cell? ⟨w3.heap.size, 0, none⟩ = some (.string s) := by simp
              obtain ⟨q2, cap2, w4, hap, ho2, gq, hlq⟩ := pthApp (p := p) (by rw [HM.out]; exact World.ownsRow.alloc ho _) (by simp; omega) (by omega) s w3.heap.size hcell
              rw [HM.out] at hap ho2
              have HB4 : Hid (Below wr.heap.size wr w4) := hid (by
                have e1 := HB3.out.alloc HB3.out.size (.cells #[.string s] 9)
                exact e1.grown gq e1.size (fun j e => by
                  have : q = j := by simpa [Value.ownBlock] using e
                  omega))
              obtain ⟨hway, _⟩ := own_way ho2 (by simp; exact HM.out)
              have HSp : Hid (SpA w4 (some ⟨ab, ao, none⟩) n f (x1 + 1) q2 (p ++ [s]) (.slice oa l.length oc) l lo) := hid (by
                have hq2 := World.ownsRow.lt ho2 q2 rfl
                refine ⟨HSr.out w4 HB4.out, hxn, hq2.2, fun t ht => ?_, fun e => ?_, fun y hy e => ?_, hLB.out.below HB4.out, hBd.out, ?_, by omega⟩
                · rcases hway with ⟨h, _⟩ | ⟨g', c', h1, h2, h3⟩
                  · cases h
                  · injection h1 with e1 e2 e3
                    injection e1 with e1
                    injection e1 with e1
                    subst e1
                    exact h3 t ht
                · have := (hLB.out.lt q2 e).2; omega
                · rcases hGr.out.2 with h | ⟨u, h1, h2⟩
                  · exact HA.out.ab y hy (h.symm.trans e)
                  · rw [h1] at e
                    injection e with e
                    have := HA.out.sg
                    rcases this with h0 | ⟨b', o', e', hb', _⟩
                    · omega
                    · rw [hy] at e'; injection e' with e'; subst e'; simp at e; omega
                · have := HA.out.lo'; have := HB4.out.size; omega)
              have HLen := hid hlen
              clear ho ho2 b3 hway gq hcell hlq
              by_cases hk3 : kv = 3
              · subst hk3
                have HC := hid (HRec.out hp8 s (x1 + 1) q2 cap2 oa oc l w4 HSp.out)
                have HKd : Hid (R = (ldTr f n d (p ++ [s]) l (x1 + 1)).bind fun b => ldKs f n (ldTr f n d) p (V - (k + 1)) b.1 b.2) := hid (by rw [HStep.out]; rfl)
                rw [HM.out] at HC
                go_wp2_with (at_builtin; refine wpList_app2 rfl _ _ _ _ rfl hap (by rfl) (by rfl) rfl ?_; clear hap)
                refine HC.out.mono ?_
                clear HC
                rintro e w5 ⟨vo', l', y', ok', rfl, hGr5, hLB5, hBd5, hy5, hr5⟩
                obtain ⟨oa5, oc5, rfl⟩ := hLB5.form
                have HG5 := hid (hGr.out.trans ((Gr.of_below HB4.out).trans hGr5))
                have HL5 := hid hLB5
                have HBd5 := hid hBd5
                have HI5 : Hid (TsI R (ldKs f n (ldTr f n d) p) n acc x V (k + 1) y' ok' l') := hid (by
                  rcases hr5 with ⟨rfl, h1, h2⟩ | ⟨rfl, h1, h2⟩
                  · exact .inl ⟨rfl, by rw [HKd.out, h1]; rfl, by omega⟩
                  · exact .inr ⟨rfl, by rw [HKd.out, h1]; rfl, by omega⟩)
                have hz5 : w.heap.size ≤ w5.heap.size := HG5.out.1.size
                clear hGr5 hLB5 hBd5 hr5 hLB hGr hBd hI2 HSr HFl HSp HStep HKd
                go_wp2_with fail
                go_roundw
                case rel => exact ⟨k + 1, y', ok', oa5, oc5, l', hlt, by go_num, rfl, rfl, rfl, hy5, hz5, HL5, HG5, HBd5, HI5⟩
                case measure => simp [intOf]; omega
              · by_cases hk12 : kv = 1 ∨ kv = 2
                · have hA4 := HSp.out
                  have HKd : Hid (R = (ldLv f n (decide (kv = 2)) (p ++ [s]) l (x1 + 1)).bind fun b => ldKs f n (ldTr f n d) p (V - (k + 1)) b.1 b.2) := hid (by
                    rw [HStep.out]
                    unfold ldKd ldLv
                    rw [if_neg hk3, if_pos hk12])
                  have HC := hid (l4ReadLeavesC (some ⟨ab, ao, none⟩) n c (x1 + 1) f q2 (m + 1) cap2 (p ++ [s]) (decide (kv = 2)) oa oc l lo w4 hn hnc HF.out hA4.sg hA4.hx (by have := HM.out; simp; omega) (by omega) hA4.gl (fun t ht => hA4.gc t (by have := HM.out; simp; omega)) hA4.go hA4.ab hA4.lb hA4.bd hA4.lo' (by omega))
                  clear hA4 hk3
                  rcases hk12 with rfl | rfl
                  all_goals
                    simp only [show decide ((1 : Int) = 2) = false from rfl, show decide ((2 : Int) = 2) = true from rfl] at HC HKd
                    go_wp2_with (at_builtin; refine wpList_app2 rfl _ _ _ _ rfl hap (by rfl) (by rfl) rfl ?_; clear hap)
                    refine HC.out.mono ?_
                    clear HC
                    rintro e w5 ⟨vo', l', y', ok', rfl, hGr5, hLB5, hBd5, hy5, hr5⟩
                    obtain ⟨oa5, oc5, rfl⟩ := hLB5.form
                    have HG5 := hid (hGr.out.trans ((Gr.of_below HB4.out).trans hGr5))
                    have HL5 := hid hLB5
                    have HBd5 := hid hBd5
                    have HI5 : Hid (TsI R (ldKs f n (ldTr f n d) p) n acc x V (k + 1) y' ok' l') := hid (by
                      rcases hr5 with ⟨rfl, h1, h2⟩ | ⟨rfl, h1, h2⟩
                      · exact .inl ⟨rfl, by rw [HKd.out, h1]; rfl, by omega⟩
                      · exact .inr ⟨rfl, by rw [HKd.out, h1]; rfl, by omega⟩)
                    have hz5 : w.heap.size ≤ w5.heap.size := HG5.out.1.size
                    clear hGr5 hLB5 hBd5 hr5 hLB hGr hBd hI2 HSr HFl HSp HStep HKd
                    go_wp2_with fail
                    go_roundw
                    case rel => exact ⟨k + 1, y', ok', oa5, oc5, l', hlt, by go_num, rfl, rfl, rfl, hy5, hz5, HL5, HG5, HBd5, HI5⟩
                    case measure => simp [intOf]; omega
                · have HN := hid (HFl.out w4 HB4.out (by
                    rw [HStep.out]
                    unfold ldKd
                    rw [if_neg hk3, if_neg hk12]
                    rfl))
                  have e1 : (kv == 1) = false := by simp; omega
                  have e2 : (kv == 2) = false := by simp; omega
                  have e3 : (kv == 3) = false := by simp; omega
                  clear hk3 hk12 hLB hGr hBd hI2 HSr HFl HSp HStep
                  go_wp2_with (at_builtin; refine wpList_app2 rfl _ _ _ _ rfl hap (by rfl) (by rfl) rfl ?_; clear hap)
                  exact bodyPost_ret (v := .tuple #[.slice oa l.length oc, .int .i64 (x : Int), .bool false]) (by simp [results, Tryz.results13, go_sem]) rfl HN.out
            · have i3 : (n : Int) ≤ (x1 : Int) := by omega
              have HN := hid (HFl.out w2 HB2.out (by
                have e := HMM.out
                rw [hI2.out, e]
                show (rdTx f n y2 40).bind _ = _
                rw [HT.out]
                simp only [Option.bind_some]
                rw [if_neg hxn]))
              clear hLB hGr hBd hI2 HSr HFl hxn
              go_wp2_with fail
              exact bodyPost_ret (v := .tuple #[.slice oa l.length oc, .int .i64 (x : Int), .bool false]) (by simp [results, Tryz.results13, go_sem]) rfl HN.out
          · have hkc : ((kc : Int) == 0) = false := by simp; omega
            have HN := hid (HFl.out w2 b2 (by
              have e := HMM.out
              rw [hI2.out, e]
              show (rdTx f n y2 40).bind _ = _
              rw [ht]
              rfl))
            clear hLB hGr hBd hI2 HSr HFl ht b2
            go_wp2_with fail
            exact bodyPost_ret (v := .tuple #[.slice oa l.length oc, .int .i64 (x : Int), .bool false]) (by simp [results, Tryz.results13, go_sem]) rfl HN.out
        · obtain rfl : k = V := by omega
          go_wp2_with fail
          refine bodyPost_ret (v := .tuple #[.slice oa l.length oc, .int .i64 (y2 : Int), .bool true]) (by simp [results, Tryz.results13, go_sem]) rfl ?_
          rw [← HP.out]
          refine ⟨_, l, y2, true, rfl, hGr.out, hLB.out, hBd.out, hy2, .inl ⟨rfl, ?_, hlen⟩⟩
          rw [hI2.out, Nat.sub_self]
          rfl
theorem l4ReadTreeC (a : Option Addr) (n c : Nat) (f : Nat → Int) (lo : Nat) (hn : n ≤ 4000) (hnc : n ≤ c) (hf : Byt f) :
    ∀ (d : Nat) (p : List ByteArray), p.length + d = 8 → ∀ (x g pc : Nat) (oa : Option Addr) (oc : Nat) (acc : List Lf) (w : World), SpA w a n f x g p (.slice oa acc.length oc) acc lo →
    Calls Tryz.prog 13 #[.slice a n c, .int .i64 (x : Int), .slice (some ⟨g, 0, none⟩) p.length pc, .slice oa acc.length oc] w fun e w' => LdP w lo (.slice oa acc.length oc) n x acc (ldTr f n (d + 1) p acc x) e w'
  | 0, p, hp, x, g, pc, oa, oc, acc, w, hA => treeStepS a n c f lo 0 p hp hn hnc hf (fun h => absurd h (by omega)) x g pc oa oc acc w hA
  | d + 1, p, hp, x, g, pc, oa, oc, acc, w, hA => treeStepS a n c f lo (d + 1) p hp hn hnc hf (fun h s x' g' pc' oa' oc' acc' W hA' => by
      have := l4ReadTreeC a n c f lo hn hnc hf d (p ++ [s]) (by simp; omega) x' g' pc' oa' oc' acc' W hA'
      rw [show (p ++ [s]).length = p.length + 1 by simp] at this
      exact this) x g pc oa oc acc w hA
theorem LC.lcapG {w : World} {lo g n c : Nat} {l : List Lf} {P Q : Nat → Nat} (h : LC w lo (.slice (some ⟨g, 0, none⟩) n c) l P Q) (hn : n = l.length) : LCap w (some ⟨g, 0, none⟩) l := by
  refine .inr ⟨g, 0, rfl, (h.lt g rfl).2, fun i hi => ?_⟩
  obtain ⟨c0, c1, c2, c3, c4⟩ := h.cell hn hi
  refine ⟨some ⟨P i, 0, none⟩, Q i, ⟨?_, (h.pt i hi).2.2.2.2⟩, h.seg hi, ?_, ?_, ?_, ?_⟩
  · rw [Nat.zero_add]; exact c0
  · rw [Nat.zero_add]; exact c1
  · rw [Nat.zero_add]; exact c2
  · rw [Nat.zero_add]; exact c3
  · rw [Nat.zero_add]; exact c4
theorem LB.caps {w : World} {lo : Nat} {a : Option Addr} {c : Nat} {l : List Lf} (h : LB w lo (.slice a l.length c) l) : LCap w a l ∧ LSeg w a l ∧ l.length ≤ c ∧ c ≤ 9223372036854775807 := by
  obtain ⟨P, Q, h1, h2⟩ := h
  rcases h1.row.2 with ⟨e, e0⟩ | ⟨g', cap', cur, hv, hbase, hb, k1, k2, k3, k4⟩
  · injection e with e1 e2 e3
    exact ⟨.inl e0, .inl e0, by omega, by omega⟩
  · injection hv with e1 e2 e3
    subst e1 e3
    unfold maxLen at k2
    exact ⟨h1.lcapG rfl, h1.lseg rfl, by omega, by omega⟩
theorem strSeg {w : World} {pa : Option Addr} {L : Nat} {f : Nat → Int} (h : Seg w pa L f) (hf : Byt f) (cap : Nat) : (convert 22 9 (.slice pa L cap)).run Tryz.prog w = .ok (.string (strF f 0 L)) w := by
  by_cases h0 : L = 0
  · subst h0
    have e : strF f 0 0 = ⟨#[]⟩ := by simp [strF]
    cases pa with
    | none =>
      rw [e, run_convert_bytes_string _ _ _ 5 none 0 cap Tryz.underlying22 Tryz.underlying5 Tryz.underlying9]
      rfl
    | some ad => exact strF_none ad 0 cap f
  · rcases h with h | ⟨b, off, rfl, hb, hc⟩
    · exact absurd h h0
    · exact strF_conv (off := off) (p := 0) hf (fun i hi => by rw [Nat.zero_add]; exact hc i hi)
theorem psZ_by (R F T : Nat → Int) (n : Nat) (l : List Lf) : By (psZ R F T n l).1 := by
  by_cases h : StOk R F T n l
  · by_cases h2 : (psB R F T n l).length ≤ 4000
    · rw [psZ_yes h h2]; exact By.app (putB_byte h.1) (tB_byte h.2.2.1 h.lvB _ _)
    · rw [psZ_long h h2]; exact By.nil
  · rw [psZ_no h]; exact By.nil
def SgP (f : Nat → Int) (n : Nat) (w : World) (e : Ending) (w' : World) : Prop := Below w.heap.size w w' ∧
  ((∃ (rl : List Rn) (l : List Lf) (va : Option Addr) (vc : Nat) (xa : Option Addr) (xc : Nat), gsS f n = some (rl, l) ∧ e = .returned (.tuple #[.agg #[.slice va l.length vc, .slice xa rl.length xc], .int .i64 0]) ∧ LB w' (w.heap.size + 1) (.slice va l.length vc) l ∧ FR w' (w.heap.size + 1) (.slice xa rl.length xc) rl ∧ l.length ≤ 5000 ∧ LBd l ∧ rl.length ≤ 8000) ∨
   (gsS f n = none ∧ e = .returned (.tuple #[.agg #[.slice none 0 0, .slice none 0 0], .int .i64 1])))
theorem Bx2.fill {v : World} {b : Nat} {v0 v1 : Value} (h : Bx2 v b v0 v1) (u0 u1 : Value) : ∃ Z, Z = (v.setCell ⟨b, 0, none⟩ u0).setCell ⟨b, 1, none⟩ u1 ∧ Z.cell? ⟨b, 0, none⟩ = some u0 ∧ Z.cell? ⟨b, 1, none⟩ = some u1 ∧ v.grownBy Z (some b) := by
  refine ⟨_, rfl, ?_, ?_, ⟨rfl, rfl, rfl, by simp [World.setCell], fun k hk hne => ?_⟩⟩
  · rw [World.cell?_setCell_other _ _ _ _ (by simp)]
    exact World.cell?_setCell_same _ _ _ h.c0
  · exact World.cell?_setCell_same _ _ _ (by rw [World.cell?_setCell_other _ _ _ _ (by simp)]; exact h.c1)
  · have hk2 : k ≠ b := fun e => hne (by rw [e])
    exact (Below.heap_setCell _ _ _ _ hk2).trans (Below.heap_setCell _ _ _ _ hk2)
theorem specGetS (a : Option Addr) (n c : Nat) (f : Nat → Int) (w : World) (hn : n ≤ 1048576) (hnc : n ≤ c) (hf : Byt f) (hs : Seg w a n f) (hab : ∀ y, a = some y → y.block < w.heap.size) :
    Calls Tryz.prog 4 #[.slice a n c] w fun e w' => SgP f n w e w' := by
  obtain ⟨P, hP⟩ : ∃ P, SgP f n w = P := ⟨_, rfl⟩
  rw [hP]
  have HP := hid hP
  clear hP
  obtain ⟨W, hW⟩ : ∃ W, w.alloc (.cells #[.slice none 0 0, .slice none 0 0] 28) = W := ⟨_, rfl⟩
  have bW : Below w.heap.size w W := by rw [← hW]; exact (Below.refl _ _).alloc (Nat.le_refl _) _
  have zW : W.heap.size = w.heap.size + 1 := by rw [← hW]; simp
  have xW : Bx2 W w.heap.size (.slice none 0 0) (.slice none 0 0) := by rw [← hW]; exact Bx2.made w _ _ _
  have HEnd : Hid (∀ (v : World), Below w.heap.size w v → gsS f n = none → v.cell? ⟨w.heap.size, 0, none⟩ = some (.slice none 0 0) → v.cell? ⟨w.heap.size, 1, none⟩ = some (.slice none 0 0) → (∀ i, v.frozen? ⟨w.heap.size, i, none⟩ = false) → ∃ Z, Z = (v.setCell ⟨w.heap.size, 0, none⟩ (.slice none 0 0)).setCell ⟨w.heap.size, 1, none⟩ (.slice none 0 0) ∧ Z.cell? ⟨w.heap.size, 0, none⟩ = some (.slice none 0 0) ∧ Z.cell? ⟨w.heap.size, 1, none⟩ = some (.slice none 0 0) ∧ P (.returned (.tuple #[.agg #[.slice none 0 0, .slice none 0 0], .int .i64 1])) Z) := hid (fun v b hN c0 c1 cf => by
    have hlt : w.heap.size < v.heap.size := block_lt_of_cell c0
    obtain ⟨Z, h1, h2, h3, h4⟩ := Bx2.fill (v := v) (b := w.heap.size) ⟨c0, c1, cf, hlt⟩ (.slice none 0 0) (.slice none 0 0)
    refine ⟨Z, h1, h2, h3, ?_⟩
    rw [← HP.out]
    exact ⟨b.grown h4 b.size (fun k e => by injection e with e; omega), .inr ⟨hN, rfl⟩⟩)
  by_cases h4 : 4000 < n
  · have HN : Hid (gsS f n = none) := hid (if_pos h4)
    have h4' : (4000 : Int) < (n : Int) := by omega
    have c0 := xW.c0
    have c1 := xW.c1
    have cf := xW.f
    obtain ⟨Z, hZ, q0, q1, hz⟩ := HEnd.out W bW HN.out c0 c1 cf
    have HZ := hid hZ
    have HQ := hid hz
    clear hs hf bW zW xW HEnd hZ hz
    go_enter Tryz.func4, Tryz.ntmps4
    go_wp2_with fail
    try rw [hW]
    rw [← HZ.out]
    exact bodyPost_ret (v := .tuple #[.agg #[.slice none 0 0, .slice none 0 0], .int .i64 1]) (by simp [results, Tryz.results4, go_sem, q0, q1]) rfl HQ.out
  · have h4' : ¬ (4000 : Int) < (n : Int) := by omega
    have HRd := hid (l2ReadC a n c 0 f W hn hf (hs.below bW) (Nat.zero_le _))
    have HF := hid hf
    have HSg := hid (hs.below bW)
    have HAB := hid hab
    have HX := hid xW
    have HBW := hid bW
    have HZW := hid zW
    clear hf hs xW bW zW hab
    go_enter Tryz.func4, Tryz.ntmps4
    go_wp2_with fail
    try rw [hW]
    clear hW
    refine HRd.out.mono ?_
    clear HRd
    rintro e w1 ⟨b1, ⟨rl, x1, v1, hr, hx1, rfl, fr1, hrl⟩ | ⟨hr, ya, nv, cv, y, rfl⟩⟩
    · obtain ⟨xa, xc, rfl, _⟩ := fr1.fs
      obtain ⟨W2, hW2⟩ : ∃ W2, w1.alloc (.cells #[.slice xa rl.length xc] 26) = W2 := ⟨_, rfl⟩
      have b2 : Below w1.heap.size w1 W2 := by rw [← hW2]; exact (Below.refl _ _).alloc (Nat.le_refl _) _
      have z2 : W2.heap.size = w1.heap.size + 1 := by rw [← hW2]; simp
      have c2 : W2.cell? ⟨w1.heap.size, 0, none⟩ = some (.slice xa rl.length xc) := by rw [← hW2]; simp
      obtain ⟨W3, hW3⟩ : ∃ W3, (W2.alloc (.cells #[] 9)).alloc (.cells #[] 89) = W3 := ⟨_, rfl⟩
      have b3 : Below W2.heap.size W2 W3 := by rw [← hW3]; exact below2 _ _ _
      have z3 : W3.heap.size = W2.heap.size + 1 + 1 := by rw [← hW3]; simp
      have b13 := keepS b1 (keepS b2 b3)
      have hzW := HZW.out
      have hz1 := b1.size
      have L3 : LB W3 (w.heap.size + 1) (.slice (some ⟨W2.heap.size + 1, 0, none⟩) 0 0) [] := by
        refine ⟨fun _ => 0, fun _ => 0, ⟨?_, fun i hi => by simp at hi⟩, fun i j hi => by simp at hi⟩
        have := World.ownsRow_lit (base := w.heap.size + 1) (e := 89) (size := 5) (W2.alloc (.cells #[] 9)) #[] 0 (by simp; omega) (by unfold maxLen; omega) rfl
        rw [hW3] at this
        simpa using this
      have HSp : Hid (SpA W3 a n f x1 W2.heap.size [] (.slice (some ⟨W2.heap.size + 1, 0, none⟩) 0 0) [] (w.heap.size + 1)) := hid (by
        refine ⟨HSg.out.below b13, hx1, by omega, fun t ht => by simp at ht, fun e => ?_, fun y hy e => ?_, L3, fun i => ?_, by omega, Nat.zero_le _⟩
        · have e : (some (W2.heap.size + 1) : Option Nat) = some W2.heap.size := e
          injection e with e
          omega
        · have e : (some (W2.heap.size + 1) : Option Nat) = some y.block := e
          injection e with e
          have := HAB.out y hy
          omega
        · simp [gL, List.getD])
      have HTr : Hid (Calls Tryz.prog 13 #[.slice a n c, .int .i64 (x1 : Int), .slice (some ⟨W2.heap.size, 0, none⟩) 0 0, .slice (some ⟨W2.heap.size + 1, 0, none⟩) 0 0] W3 fun e w' => LdP W3 (w.heap.size + 1) (.slice (some ⟨W2.heap.size + 1, 0, none⟩) 0 0) n x1 [] (ldTr f n 9 [] [] x1) e w') :=
        hid (l4ReadTreeC a n c f (w.heap.size + 1) (by omega) hnc HF.out 8 [] rfl x1 W2.heap.size 0 (some ⟨W2.heap.size + 1, 0, none⟩) 0 [] W3 HSp.out)
      have HCx := hid hr
      have HB3 := hid (HBW.out.trans (b13.mono HBW.out.size))
      have HX3 := hid (HX.out.below b13 HX.out.lt)
      have HFr := hid ((fr1.below b2).below b3)
      have HFl : Hid (∀ g, (Value.slice xa rl.length xc).ownBlock = some g → w.heap.size + 1 ≤ g ∧ g < w1.heap.size) := hid (fun g hg => by have := World.ownsRow.lt fr1 g hg; omega)
      have HC3 := hid ((b3.cell (p := ⟨w1.heap.size, 0, none⟩) (show w1.heap.size < W2.heap.size by omega)).trans c2)
      have HZ3 : Hid (w.heap.size + 1 ≤ w1.heap.size ∧ W2.heap.size = w1.heap.size + 1 ∧ W3.heap.size = W2.heap.size + 1 + 1) := hid ⟨by omega, z2, z3⟩
      have H13 := hid b13
      clear b1 b2 b3 b13 fr1 hr L3 HX HSp z2 z3 hz1 hzW c2
      go_wp2_with fail
      try rw [hW2]
      try rw [hW3]
      clear hW2 hW3
      refine HTr.out.mono ?_
      clear HTr
      rintro e w4 ⟨vo, l, y, ok, rfl, hGr, hLB, hBd, hy, hr⟩
      obtain ⟨va, vc, rfl⟩ := hLB.form
      have hz3 := HZ3.out
      have hlen : l.length ≤ 5000 := by rcases hr with ⟨_, _, h⟩ | ⟨_, _, h⟩ <;> simp at h <;> omega
      have own2 : (Value.slice (some ⟨W2.heap.size + 1, 0, none⟩) 0 0).ownBlock = some (W2.heap.size + 1) := rfl
      have blk : ∀ k, k < W3.heap.size → k ≠ W2.heap.size + 1 → w4.heap[k]? = W3.heap[k]? := fun k h1 h2 => hGr.1.block k h1 (fun e => h2 (by rw [own2] at e; injection e))
      have HB4 : Hid (Below w.heap.size w w4) := hid (HB3.out.grown hGr.1 HB3.out.size (fun k e => by rw [own2] at e; injection e with e; omega))
      obtain ⟨W5, hW5⟩ : ∃ W5, w4.alloc (.cells #[.slice va l.length vc, .slice xa rl.length xc] 28) = W5 := ⟨_, rfl⟩
      have b5 : Below w4.heap.size w4 W5 := by rw [← hW5]; exact (Below.refl _ _).alloc (Nat.le_refl _) _
      have X5 : Bx2 W5 w4.heap.size (.slice va l.length vc) (.slice xa rl.length xc) := by rw [← hW5]; exact Bx2.made w4 _ _ _
      have R4 : Bx2 w4 w.heap.size (.slice none 0 0) (.slice none 0 0) := by
        have e := blk w.heap.size (by omega) (by omega)
        exact ⟨(World.cell?_of_block (a := ⟨w.heap.size, 0, none⟩) e).trans HX3.out.c0, (World.cell?_of_block (a := ⟨w.heap.size, 1, none⟩) e).trans HX3.out.c1, fun i => (World.frozen?_of_block (a := ⟨w.heap.size, i, none⟩) e).trans (HX3.out.f i), Nat.lt_of_lt_of_le HX3.out.lt hGr.1.size⟩
      have HR5 := hid (R4.below b5 R4.lt)
      have hc4 : w4.cell? ⟨w1.heap.size, 0, none⟩ = some (.slice xa rl.length xc) := (World.cell?_of_block (a := ⟨w1.heap.size, 0, none⟩) (blk w1.heap.size (by omega) (by omega))).trans HC3.out
      have hF4 : FR w4 (w.heap.size + 1) (.slice xa rl.length xc) rl := by
        have h1 := World.ownsRow.kept HFr.out hGr.1 (by
          cases e : (Value.slice xa rl.length xc).ownBlock with
          | none => exact .inl rfl
          | some g => exact .inr (fun e2 => by have := (HFl.out g e).2; rw [own2] at e2; injection e2 with e2; omega))
        exact FR.weak h1 (by have := HZW.out; omega)
      have HF5 := hid (hF4.below b5)
      have HL5 := hid (hLB.below b5)
      have HB5 := hid (HB4.out.trans (b5.mono HB4.out.size))
      have HS5 : Hid (Seg W5 a n f) := hid (Seg.below (Seg.keptR (row := some (W2.heap.size + 1)) (HSg.out.below H13.out) (by rw [← own2]; exact hGr.1) (fun y hy e => by injection e with e; have := HAB.out y hy; omega)) b5)
      obtain ⟨q1, q2, q3, q4⟩ := HL5.out.caps
      obtain ⟨xa', xc', ex, fs5, _, _⟩ := HF5.out.fs
      have HPS := hid (specPutState va vc l xa rl.length xc (lR rl) (lF rl) (lT rl) W5 q3 q4 (by omega) hBd (by omega) q1 q2 (by injection ex with e1 e2 e3; subst e1; exact fs5.rseg))
      have HBd := hid hBd
      have HRt := hid hr
      have x0 := X5.c0
      have x1' := X5.c1
      have HX5 := hid X5
      clear hr hGr hLB hBd blk R4 hF4 b5 q1 q2 q3 q4 ex fs5 X5 own2
      go_wp2_with fail
      try rw [hW5]
      clear hW5 hc4
      refine HPS.out.mono ?_
      clear HPS
      rintro e w6 ⟨v6, zs, k, rfl, hz, ho, b6⟩
      obtain ⟨oa, oc, rfl, os⟩ := ho.any
      have R6 := HR5.out.below b6 HR5.out.lt
      have HB6 := hid (HB5.out.trans (b6.mono HB5.out.size))
      have c0 := R6.c0
      have c1 := R6.c1
      have cf := R6.f
      have HR6 := hid R6
      have HNo : Hid (gsS f n = none → ∃ Z, Z = (w6.setCell ⟨w.heap.size, 0, none⟩ (.slice none 0 0)).setCell ⟨w.heap.size, 1, none⟩ (.slice none 0 0) ∧ Z.cell? ⟨w.heap.size, 0, none⟩ = some (.slice none 0 0) ∧ Z.cell? ⟨w.heap.size, 1, none⟩ = some (.slice none 0 0) ∧ P (.returned (.tuple #[.agg #[.slice none 0 0, .slice none 0 0], .int .i64 1])) Z) := hid (fun h => HEnd.out w6 HB6.out h R6.c0 R6.c1 R6.f)
      have HPs := hid hz
      have HSp : Hid (gsS f n = (ldTr f n 9 [] [] x1).bind fun b => if yes (b.2 = n ∧ (psZ (lR rl) (lF rl) (lT rl) rl.length b.1).2 = 0 ∧ strF (fun i => (psZ (lR rl) (lF rl) (lT rl) rl.length b.1).1.getD i 0) 0 (psZ (lR rl) (lF rl) (lT rl) rl.length b.1).1.length = strF f 0 n) = true then some (rl, b.1) else none) := hid (by
        unfold gsS
        rw [if_neg h4, HCx.out]
        rfl)
      cases ok with
      | false =>
        obtain ⟨Z, hZ, p0, p1, hQ⟩ := HNo.out (by
          rw [HSp.out]
          rcases HRt.out with ⟨h, _⟩ | ⟨_, h, _⟩
          · cases h
          · rw [h]; rfl)
        have HZ := hid hZ
        have HQ := hid hQ
        clear hZ hQ R6 os ho b6 hz x0 x1'
        go_wp2_with fail
        rw [← HZ.out]
        exact bodyPost_ret (v := .tuple #[.agg #[.slice none 0 0, .slice none 0 0], .int .i64 1]) (by simp [results, Tryz.results4, go_sem, p0, p1]) rfl HQ.out
      | true =>
        have HT : Hid (ldTr f n 9 [] [] x1 = some (l, y)) := hid (by
          rcases HRt.out with ⟨_, h, _⟩ | ⟨h, _⟩
          · exact h
          · cases h)
        have HSq : Hid (gsS f n = if yes (y = n ∧ k = 0 ∧ strF (fun i => zs.getD i 0) 0 zs.length = strF f 0 n) = true then some (rl, l) else none) := hid (by
          rw [HSp.out, HT.out]
          simp only [Option.bind_some]
          rw [HPs.out])
        by_cases hyn : y = n
        · have hyn2 : n = y := hyn.symm
          subst hyn2
          by_cases hk0 : k = 0
          · subst hk0
            have hby : Byt (fun i => zs.getD i 0) := by
              have := (psZ_by (lR rl) (lF rl) (lT rl) rl.length l).byt
              rw [HPs.out] at this
              exact this
            have hcv1 := strSeg os hby oc
            have hcv2 := strSeg (HS5.out.below b6) HF.out c
            obtain ⟨s1, hs1⟩ : ∃ s1, strF (fun i => zs.getD i 0) 0 zs.length = s1 := ⟨_, rfl⟩
            obtain ⟨s2, hs2⟩ : ∃ s2, strF f 0 n = s2 := ⟨_, rfl⟩
            rw [hs1] at hcv1 HSq
            rw [hs2] at hcv2 HSq
            clear hs1 hs2 hby
            by_cases hss : s1 = s2
            · subst hss
              have hsb : (s1.toList == s1.toList) = true := by simp
              have HY : Hid (gsS f n = some (rl, l)) := hid (by rw [HSq.out, yes_t ⟨rfl, rfl, rfl⟩]; rfl)
              have X6 := HX5.out.below b6 HX5.out.lt
              have x60 := X6.c0
              have x61 := X6.c1
              have HL6 := hid (HL5.out.below b6)
              have HF6 := hid (HF5.out.below b6)
              clear R6 os ho b6 hz x0 x1' X6
              go_wp2_with fail
              obtain ⟨Z, hZ, p0, p1, gZ⟩ := HR6.out.fill (.slice va l.length vc) (.slice xa rl.length xc)
              rw [← hZ]
              clear hZ
              refine bodyPost_ret (v := .tuple #[.agg #[.slice va l.length vc, .slice xa rl.length xc], .int .i64 0]) (by simp [results, Tryz.results4, go_sem, p0, p1]) rfl ?_
              rw [← HP.out]
              refine ⟨HB6.out.grown gZ HB6.out.size (fun k e => by injection e with e; omega), .inl ⟨rl, l, va, vc, xa, xc, HY.out, rfl, HL6.out.move gZ.size (fun q h1 h2 => gZ.block q h2 (fun e => by injection e with e; omega)), own_at5 HF6.out (fun g hg => ?_), hlen, HBd.out, hrl⟩⟩
              have hg' := World.ownsRow.lt HF6.out g hg
              exact gZ.block g hg'.2 (fun e => by injection e with e; omega)
            · have hsb : (s1.toList == s2.toList) = false := by
                rw [beq_eq_false_iff_ne]
                intro e
                rw [ByteArray.toList_eq, ByteArray.toList_eq] at e
                have e2 : s1.data = s2.data := Array.toList_inj.1 e
                obtain ⟨d1⟩ := s1
                obtain ⟨d2⟩ := s2
                exact hss (by rw [show d1 = d2 from e2])
              obtain ⟨Z, hZ, p0, p1, hQ⟩ := HNo.out (by rw [HSq.out, yes_f (fun h => hss h.2.2)]; rfl)
              have HZ := hid hZ
              have HQ := hid hQ
              clear hZ hQ R6 os ho b6 hz x0 x1'
              go_wp2_with fail
              rw [← HZ.out]
              exact bodyPost_ret (v := .tuple #[.agg #[.slice none 0 0, .slice none 0 0], .int .i64 1]) (by simp [results, Tryz.results4, go_sem, p0, p1]) rfl HQ.out
          · obtain ⟨Z, hZ, p0, p1, hQ⟩ := HNo.out (by rw [HSq.out, yes_f (fun h => hk0 h.2.1)]; rfl)
            have HZ := hid hZ
            have HQ := hid hQ
            clear hZ hQ R6 os ho b6 hz x0 x1'
            go_wp2_with fail
            rw [← HZ.out]
            exact bodyPost_ret (v := .tuple #[.agg #[.slice none 0 0, .slice none 0 0], .int .i64 1]) (by simp [results, Tryz.results4, go_sem, p0, p1]) rfl HQ.out
        · have hyn' : ¬ (y : Int) = (n : Int) := by omega
          obtain ⟨Z, hZ, p0, p1, hQ⟩ := HNo.out (by rw [HSq.out, yes_f (fun h => hyn h.1)]; rfl)
          have HZ := hid hZ
          have HQ := hid hQ
          clear hZ hQ R6 os ho b6 hz x0 x1' hyn
          go_wp2_with fail
          rw [← HZ.out]
          exact bodyPost_ret (v := .tuple #[.agg #[.slice none 0 0, .slice none 0 0], .int .i64 1]) (by simp [results, Tryz.results4, go_sem, p0, p1]) rfl HQ.out
    · have HN : Hid (gsS f n = none) := hid (by unfold gsS; rw [if_neg h4, hr]; rfl)
      have b2 : Below w1.heap.size w1 (w1.alloc (.cells #[.slice ya nv cv] 26)) := (Below.refl _ _).alloc (Nat.le_refl _) _
      have b12 := keepS b1 b2
      have X2 := HX.out.below b12 HX.out.lt
      obtain ⟨Z, hZ, q0, q1, hz⟩ := HEnd.out _ (HBW.out.trans (b12.mono HBW.out.size)) HN.out X2.c0 X2.c1 X2.f
      have c0 := X2.c0
      have c1 := X2.c1
      have cf := X2.f
      have HZ := hid hZ
      have HQ := hid hz
      clear b1 b2 b12 X2 HEnd hZ hz hr
      go_wp2_with fail
      rw [← HZ.out]
      exact bodyPost_ret (v := .tuple #[.agg #[.slice none 0 0, .slice none 0 0], .int .i64 1]) (by simp [results, Tryz.results4, go_sem, q0, q1]) rfl HQ.out
theorem SOw.same {w w' : World} {lo hi : Nat} {a x : Option Addr} {d : Nat} {S : Sx} (h : SOw w lo hi a x d S) (hs : w.heap.size ≤ w'.heap.size) (hq : ∀ q, lo ≤ q → q < hi → w'.heap[q]? = w.heap[q]?) : SOw w' lo hi a x d S := by
  refine ⟨?_, ?_, h.lv.imp id (fun ⟨b, P, Q, G, e, hw, hI⟩ => ⟨b, P, Q, G, e, hw, fun k0 => (hI k0).zero hw hq⟩), ?_, h.hl.1, Nat.le_trans h.hl.2 hs⟩
  · rcases h.lv with h0 | ⟨b, P, Q, G, e, hw, hI⟩
    · exact .inl h0
    · have I := hI 0
      rcases h.lf with h0 | ⟨b', off, e', hb, hc⟩
      · exact .inl h0
      · rw [e] at e'
        have e1 : b = b' := congrArg Addr.block (Option.some.inj e')
        have e2 : 0 = off := congrArg Addr.off (Option.some.inj e')
        have eb : w'.heap[b]? = w.heap[b]? := hq b hw.b1 hw.b2
        have q1 : ∀ j, w'.cell? ⟨b, j, none⟩ = w.cell? ⟨b, j, none⟩ := fun j => World.cell?_of_block (a := ⟨b, j, none⟩) eb
        rw [← e1, ← e2] at hc
        refine .inr ⟨b, 0, e, by rw [e1]; omega, fun i hi' => ?_⟩
        obtain ⟨pa, pc, c0, hss, c1, c2, c3, c4⟩ := hc i hi'
        refine ⟨pa, pc, by rw [q1]; exact c0, ?_, by rw [q1]; exact c1, by rw [q1]; exact c2, by rw [q1]; exact c3, by rw [q1]; exact c4⟩
        rcases hss with h0 | ⟨g, o, e3, hg, hcc⟩
        · exact .inl h0
        · by_cases hz : (gL S.l i).p.length = 0
          · exact .inl hz
          · have hwi := hw.g1 i hi' (by omega)
            have c0' := I.pth i hi'
            rw [Nat.zero_add] at c0
            rw [c0] at c0'
            have e4 : pa = P i := by injection (Option.some.inj c0')
            rw [hwi.1, e3] at e4
            have e5 : g = G i := congrArg Addr.block (Option.some.inj e4)
            have eg : w'.heap[g]? = w.heap[g]? := by rw [e5]; exact hq _ hwi.2.2.1 hwi.2.2.2
            exact .inr ⟨g, o, e3, by omega, fun t ht => (World.cell?_of_block (a := ⟨g, _, none⟩) eg).trans (hcc t ht)⟩
  · rcases h.ro with h0 | ⟨g, ys, e, hg, ho⟩
    · exact .inl h0
    · have eg := hq g (ho.lt g rfl).1 hg
      exact h.rn.same hs (fun y hy => by rw [e] at hy; have := Option.some.inj hy; rw [← this]; exact eg)
  · rcases h.ro with h0 | ⟨g, ys, e, hg, ho⟩
    · exact .inl h0
    · exact .inr ⟨g, ys, e, hg, own_at5 ho fun q hq' => by
        have e1 : g = q := by simpa [Value.ownBlock] using hq'
        rw [← e1]; exact hq g (ho.lt g rfl).1 hg⟩
theorem SOw.below {w w' : World} {lo hi : Nat} {a x : Option Addr} {d : Nat} {S : Sx} (h : SOw w lo hi a x d S) (hb : Below w.heap.size w w') : SOw w' lo hi a x d S :=
  h.same hb.size (fun q _ h2 => hb.block q (Nat.lt_of_lt_of_le h2 h.hl.2))
theorem SOw.mt (w : World) (S : Sx) (hl : S.l.length = 0) (hn : S.n = 0) (lo hi : Nat) (h : lo ≤ hi ∧ hi ≤ w.heap.size) (a x : Option Addr) (d : Nat) : SOw w lo hi a x d S :=
  ⟨.inl hl, .inl hn, .inl hl, .inl hn, h⟩
end Go.Proofs.YtakmpmhjcngbbaaGreatDoor
