/-
  giroref13.insert.
-/
import Derived.Test.YtmfmdicdbjghkaaRowPut
import Derived.Deep.RegionHeld3
namespace Go.Proofs.Ytmfmdicdbjghkaa
open Go.RowKit
set_option linter.unusedVariables false
set_option linter.unusedSimpArgs false

theorem litP_own {w : World} {g B : Nat} (h : w.heap[g]? = some (.cells #[] 34 (0, 0))) (hB : B ≤ g) : w.ownsRow B 34 7 (.slice (some ⟨g, 0, none⟩) 0 0) 0 (payL []) :=
  ⟨by simp [payL], .inr ⟨g, 0, #[], rfl, hB, h, Nat.le_refl _, by unfold maxLen; omega, rfl, rfl⟩⟩
/-- A payment that was just laid is there behind an append. -/
theorem pgood_grown {w w' : World} {g : Nat} {o : Option Nat} {n c : Nat} {L : List P7} (h : PGood w (some ⟨g, 0, none⟩) n c L) (hg : w.grownBy w' o) (hne : some g ≠ o) (hlt : g < w.heap.size) : PGood w' (some ⟨g, 0, none⟩) n c L := by
  refine ⟨⟨h.pays.1, ?_⟩, h.cap, h.max, h.nil0⟩
  rcases h.pays.2 with h0 | ⟨b, off, ha, hc⟩
  · exact .inl h0
  · simp at ha
    obtain ⟨rfl, rfl⟩ := ha
    refine .inr ⟨g, 0, rfl, fun i hi => At7.of fun j hj => ?_⟩
    have := (hc i hi).nth j hj
    rw [← this]
    unfold World.cell?
    rw [hg.block g hlt hne]

set_option maxHeartbeats 4000000 in
set_option maxRecDepth 100000 in
theorem refInsert_any (a : Option Addr) (n c k : Nat) (L : List P7) (p : P7) (w : World) (h : PGood w a n c L) (hm : n ≤ 100000) (hk : k ≤ n) :
    Calls Try.prog 30 #[.slice a n c, .int .i64 k, p.val] w (PEnd w (qIns L k p)) := by
  obtain ⟨p0, p1, p2, p3, p4, p5, p6⟩ := p
  obtain ⟨w1, hw1⟩ : ∃ w1, w1 = w.alloc (.cells #[.int .i64 p0, .int .i64 p1, .int .i64 p2, .int .i64 p3, .int .i64 p4, .int .i64 p5, .int .i64 p6] 34) := ⟨_, rfl⟩
  have HB : Hid (Below w.heap.size w w1) := by rw [hw1]; exact box_below _ _
  have HX : Hid (At7 w1 w.heap.size 0 (p0, p1, p2, p3, p4, p5, p6)) := by rw [hw1]; exact At7.new w (p0, p1, p2, p3, p4, p5, p6) _ _
  have H : Hid (PGood w1 a n c L) := h.below HB.out
  have hc := h.cap
  have hmx := h.max
  have hl := h.len
  have k0 : (0 : Int) ≤ (k : Int) := by omega
  have k1 : (k : Int) ≤ (n : Int) := by omega
  have k2 : (k : Int) ≤ (c : Int) := by omega
  have k3 : (n : Int) ≤ (c : Int) := by omega
  have SA : Hid (∀ u, Below w1.heap.size w1 u → PGood u a k c (L.take k)) := fun u hu => (H.out.below hu).take k hk
  have SB : Hid (∀ u, Below w1.heap.size w1 u → PGood u (pcut a c k) (n - k) (c - k) (L.drop k)) := fun u hu => (H.out.below hu).from k hk
  have R : Hid (∀ v u, u.ownsRow w1.heap.size 34 7 v (k + 1 + (n - k)) (payL ((L.take k ++ [(p0, p1, p2, p3, p4, p5, p6)]) ++ L.drop k)) → Below w1.heap.size w1 u → PEnd w (qIns L k (p0, p1, p2, p3, p4, p5, p6)) (.returned v) u) := by
    intro v u ho hb
    rw [show (L.take k ++ [(p0, p1, p2, p3, p4, p5, p6)]) ++ L.drop k = qIns L k (p0, p1, p2, p3, p4, p5, p6) by simp [qIns]] at ho
    obtain ⟨a4, c4, rfl, g4, n4⟩ := PGood.own ho
    exact ⟨a4, c4, rfl, g4, fun x hx => by have := n4 x hx; have := HB.out.size; omega, HB.out.trans (hb.mono HB.out.size)⟩
  obtain ⟨q0, q1, q2, q3, q4, q5, q6⟩ := HX.out
  simp only [P7.id, P7.fr, P7.to, P7.am, P7.cl, P7.st, P7.ti] at q0 q1 q2 q3 q4 q5 q6
  obtain ⟨g0, hg0⟩ : ∃ g0, w.heap.size = g0 := ⟨_, rfl⟩
  have HG : Hid (w.heap.size = g0) := hg0
  rw [hg0] at q0 q1 q2 q3 q4 q5 q6
  have RS : ∀ u, Below w1.heap.size w1 u → u.cell? ⟨g0, 0, none⟩ = some (.int .i64 p0) ∧ u.cell? ⟨g0, 1, none⟩ = some (.int .i64 p1) ∧ u.cell? ⟨g0, 2, none⟩ = some (.int .i64 p2) ∧ u.cell? ⟨g0, 3, none⟩ = some (.int .i64 p3) ∧ u.cell? ⟨g0, 4, none⟩ = some (.int .i64 p4) ∧ u.cell? ⟨g0, 5, none⟩ = some (.int .i64 p5) ∧ u.cell? ⟨g0, 6, none⟩ = some (.int .i64 p6) ∧ Below w1.heap.size w1 u := fun u hu => by
    have hlt := block_lt_of_cell q0
    exact ⟨(hu.cell (p := ⟨g0, 0, none⟩) hlt).trans q0, (hu.cell (p := ⟨g0, 1, none⟩) hlt).trans q1, (hu.cell (p := ⟨g0, 2, none⟩) hlt).trans q2, (hu.cell (p := ⟨g0, 3, none⟩) hlt).trans q3, (hu.cell (p := ⟨g0, 4, none⟩) hlt).trans q4, (hu.cell (p := ⟨g0, 5, none⟩) hlt).trans q5, (hu.cell (p := ⟨g0, 6, none⟩) hlt).trans q6, hu⟩
  have RS0 := RS w1.drew ((Below.refl _ _).drew)
  have RSA : ∀ u o, (u.cell? ⟨g0, 0, none⟩ = some (.int .i64 p0) ∧ u.cell? ⟨g0, 1, none⟩ = some (.int .i64 p1) ∧ u.cell? ⟨g0, 2, none⟩ = some (.int .i64 p2) ∧ u.cell? ⟨g0, 3, none⟩ = some (.int .i64 p3) ∧ u.cell? ⟨g0, 4, none⟩ = some (.int .i64 p4) ∧ u.cell? ⟨g0, 5, none⟩ = some (.int .i64 p5) ∧ u.cell? ⟨g0, 6, none⟩ = some (.int .i64 p6) ∧ Below w1.heap.size w1 u) → _ := fun u o hu => RS (u.alloc o) (hu.2.2.2.2.2.2.2.alloc hu.2.2.2.2.2.2.2.size o)
  have RSB : ∀ u, (u.cell? ⟨g0, 0, none⟩ = some (.int .i64 p0) ∧ u.cell? ⟨g0, 1, none⟩ = some (.int .i64 p1) ∧ u.cell? ⟨g0, 2, none⟩ = some (.int .i64 p2) ∧ u.cell? ⟨g0, 3, none⟩ = some (.int .i64 p3) ∧ u.cell? ⟨g0, 4, none⟩ = some (.int .i64 p4) ∧ u.cell? ⟨g0, 5, none⟩ = some (.int .i64 p5) ∧ u.cell? ⟨g0, 6, none⟩ = some (.int .i64 p6) ∧ Below w1.heap.size w1 u) → Below w1.heap.size w1 u := fun u hu => hu.2.2.2.2.2.2.2
  have OA : Hid ((w1.drew.alloc (.cells #[] 34)).ownsRow w1.heap.size 34 7 (.slice (some ⟨w1.heap.size, 0, none⟩) 0 0) 0 (payL [])) := litP_own (heap_alloc_new w1.drew _) (Nat.le_refl _)
  have OB : Hid (((w1.drew.alloc (.cells #[] 34)).alloc (.cells #[.int .i64 p0, .int .i64 p1, .int .i64 p2, .int .i64 p3, .int .i64 p4, .int .i64 p5, .int .i64 p6] 34)).ownsRow w1.heap.size 34 7 (.slice (some ⟨w1.heap.size, 0, none⟩) 0 0) 0 (payL [])) := own_below OA.out (box_below _ _)
  have OC : Hid (((w1.drew.alloc (.cells #[.int .i64 p0, .int .i64 p1, .int .i64 p2, .int .i64 p3, .int .i64 p4, .int .i64 p5, .int .i64 p6] 34)).alloc (.cells #[] 34)).ownsRow w1.heap.size 34 7 (.slice (some ⟨w1.heap.size + 1, 0, none⟩) 0 0) 0 (payL [])) := by
    have := heap_alloc_new (w1.drew.alloc (.cells #[.int .i64 p0, .int .i64 p1, .int .i64 p2, .int .i64 p3, .int .i64 p4, .int .i64 p5, .int .i64 p6] 34)) (.cells #[] 34)
    rw [size_alloc] at this
    exact litP_own this (by omega)
  have LB : Hid (PGood ((w1.drew.alloc (.cells #[] 34)).alloc (.cells #[.int .i64 p0, .int .i64 p1, .int .i64 p2, .int .i64 p3, .int .i64 p4, .int .i64 p5, .int .i64 p6] 34)) (some ⟨w1.heap.size + 1, 0, none⟩) 1 1 [(p0, p1, p2, p3, p4, p5, p6)]) := by
    have := PGood.lit1 (w1.drew.alloc (.cells #[] 34)) (p0, p1, p2, p3, p4, p5, p6)
    rw [size_alloc] at this
    exact this
  have LC : Hid (PGood ((w1.drew.alloc (.cells #[.int .i64 p0, .int .i64 p1, .int .i64 p2, .int .i64 p3, .int .i64 p4, .int .i64 p5, .int .i64 p6] 34)).alloc (.cells #[] 34)) (some ⟨w1.heap.size, 0, none⟩) 1 1 [(p0, p1, p2, p3, p4, p5, p6)]) := (PGood.lit1 w1.drew (p0, p1, p2, p3, p4, p5, p6)).below (box_below _ _)
  have HW : Hid (w1 = _) := hw1
  clear h hw1 hl hg0
  go_enter Try.func30, Try.ntmps30
  go_wp2_with fail
  rw [HG.out] at *
  rw [← HW.out]
  go_region_held3 (fun w' => w'.cell? ⟨g0, 0, none⟩ = some (.int .i64 p0) ∧ w'.cell? ⟨g0, 1, none⟩ = some (.int .i64 p1) ∧ w'.cell? ⟨g0, 2, none⟩ = some (.int .i64 p2) ∧ w'.cell? ⟨g0, 3, none⟩ = some (.int .i64 p3) ∧ w'.cell? ⟨g0, 4, none⟩ = some (.int .i64 p4) ∧ w'.cell? ⟨g0, 5, none⟩ = some (.int .i64 p5) ∧ w'.cell? ⟨g0, 6, none⟩ = some (.int .i64 p6) ∧ Below w1.heap.size w1 w') (first | assumption | exact RS _ (by assumption) | exact RS0 | exact RSA _ _ (by assumption)) (first
    | (refine step_append_pays (by rfl) (.tmp 7) (.tmp 10) (by rfl) w1.heap.size (.slice (some ⟨w1.heap.size, 0, none⟩) 0 0) 0 [] (by rfl) (by first | exact OA.out | exact OB.out) a k c (L.take k) (by rfl) (SA.out _ (RSB _ (by assumption))) (by omega) (Below.size (RSB _ (by assumption))) ?_
       intro v2 w2 o2 g2
       have B2 : Below w1.heap.size w1 w2 := Below.grown (RSB _ (by assumption)) g2 (Below.size (RSB _ (by assumption))) (fun j hj => by simp [Value.ownBlock] at hj; omega)
       simp only [Nat.zero_add, List.nil_append] at o2)
    | (refine step_append_pays (by rfl) (.tmp 7) (.tmp 10) (by rfl) w1.heap.size (.slice (some ⟨w1.heap.size + 1, 0, none⟩) 0 0) 0 [] (by rfl) OC.out a k c (L.take k) (by rfl) (SA.out _ (RSB _ (by assumption))) (by omega) (Below.size (RSB _ (by assumption))) ?_
       intro v2 w2 o2 g2
       have B2 : Below w1.heap.size w1 w2 := Below.grown (RSB _ (by assumption)) g2 (Below.size (RSB _ (by assumption))) (fun j hj => by simp [Value.ownBlock] at hj; omega)
       simp only [Nat.zero_add, List.nil_append] at o2)
    | (refine step_append_pays (by rfl) (.tmp 11) (.tmp 13) (by rfl) w1.heap.size v2 k (L.take k) (by rfl) (own_below o2 (box_below _ _)) (some ⟨w2.heap.size, 0, none⟩) 1 1 [(p0, p1, p2, p3, p4, p5, p6)] (by rfl) (PGood.lit1 w2 (p0, p1, p2, p3, p4, p5, p6)) (by omega) (Below.size (RSB _ (by assumption))) ?_
       intro v3 w3 o3 g3
       have B3 : Below w1.heap.size w1 w3 := Below.grown (RSB _ (by assumption)) g3 (Below.size (RSB _ (by assumption))) (fun j hj => (o2.lt j hj).1))
    | (refine step_append_pays (by rfl) (.tmp 11) (.tmp 13) (by rfl) w1.heap.size v2 k (L.take k) (by rfl) o2 (some ⟨w1.heap.size + 1, 0, none⟩) 1 1 [(p0, p1, p2, p3, p4, p5, p6)] (by rfl) (pgood_grown LB.out g2 (by simp [Value.ownBlock]) (by simp)) (by omega) B2.size ?_
       intro v3 w3 o3 g3
       have B3 : Below w1.heap.size w1 w3 := Below.grown B2 g3 B2.size (fun j hj => (o2.lt j hj).1))
    | (refine step_append_pays (by rfl) (.tmp 11) (.tmp 13) (by rfl) w1.heap.size v2 k (L.take k) (by rfl) o2 (some ⟨w1.heap.size, 0, none⟩) 1 1 [(p0, p1, p2, p3, p4, p5, p6)] (by rfl) (pgood_grown LC.out g2 (by simp [Value.ownBlock]) (by simp; omega)) (by omega) B2.size ?_
       intro v3 w3 o3 g3
       have B3 : Below w1.heap.size w1 w3 := Below.grown B2 g3 B2.size (fun j hj => (o2.lt j hj).1))
    | (refine step_append_pays (by rfl) (.tmp 14) (.tmp 17) (by rfl) w1.heap.size v3 (k + 1) (L.take k ++ [(p0, p1, p2, p3, p4, p5, p6)]) (by rfl) o3 (pcut a c k) (n - k) (c - k) (L.drop k) (by rfl) (SB.out _ B3) (by omega) B3.size ?_
       intro v4 w4 o4 g4
       have B4 : Below w1.heap.size w1 w4 := Below.grown B3 g4 B3.size (fun j hj => (o3.lt j hj).1)
       have FR := R.out v4 w4 o4 B4)
    | fail)
  all_goals
    go_wp2
    all_goals
      go_ret
      exact FR

end Go.Proofs.Ytmfmdicdbjghkaa
