/-
  The walk of RowFull.
-/
import Derived.Test.YtjibnbheegcnkaaKnown13
import Derived.Test.YtjibnbheegcnkaaRowDrop
namespace Go.Proofs.Ytjibnbheegcnkaa
open Go.RowKit
set_option linter.unusedVariables false
set_option linter.unusedSimpArgs false

theorem ins_has {l : List P7} {k : Nat} {p : P7} {x : Int} : qHas (qIns l k p) x = true ↔ p.id = x ∨ qHas l x = true := by
  rw [has_iff, has_iff]
  constructor
  · rintro ⟨q, hq, e⟩
    rcases qIns_mem.1 hq with rfl | hq
    · exact .inl e
    · exact .inr ⟨q, hq, e⟩
  · rintro (h | ⟨q, hq, e⟩)
    · exact ⟨p, qIns_mem.2 (.inl rfl), h⟩
    · exact ⟨q, qIns_mem.2 (.inr hq), e⟩
theorem rest_in {l : List P7} {k i : Nat} (hk : k < l.length) (hi : i < l.length) (hne : i ≠ k) : l.getD i p70 ∈ qRest l k := by
  by_cases h : i < k
  · rw [← qRest_lo hk h]
    exact getD_in (by rw [qRest_len hk]; omega)
  · have : l.getD i p70 = (qRest l k).getD (i - 1) p70 := by rw [qRest_hi hk (by omega)]; congr 1; omega
    rw [this]
    exact getD_in (by rw [qRest_len hk]; omega)
/-- Who is not gone is there. -/
theorem drop_has_ne {l : List P7} {x y : Int} (hxy : ¬ x = y) (h : qHas l x = true) : qHas (qDrop l y) x = true := by
  cases hy : qHas l y with
  | false => rw [(drop_no hy).1]; exact h
  | true =>
    rw [(drop_yes hy).1]
    have h1 := at_id h
    have h2 := at_id hy
    exact has_iff.2 ⟨_, rest_in (at_lt hy) (at_lt h) (fun e => hxy (by rw [e, h2] at h1; exact h1.symm)), h1⟩
theorem drop_has_le {l : List P7} {x y : Int} (h : qHas l x = false) : qHas (qDrop l y) x = false := by
  rw [has_not] at *
  intro p hp
  cases hy : qHas l y with
  | false => rw [(drop_no hy).1] at hp; exact h p hp
  | true => rw [(drop_yes hy).1] at hp; exact h p (qRest_mem hp)

/-- What RowFull puts, and what it has. -/
def fpay (j : Nat) : P7 := ((j : Int), (j : Int) % 4, 0, 0, 1 + (j : Int) % 3, 0, 0)
def fl : Nat → List P7
  | 0 => []
  | k + 1 => qPut (fl k) (fpay (k + 1))
theorem fl_que (k : Nat) : Que (fl k) := by
  induction k with
  | zero => exact Que.nil
  | succ k ih => exact ih.put _
theorem fl_has : ∀ (k : Nat), k ≤ 40 → (fl k).length = k ∧ ∀ x : Int, qHas (fl k) x = true ↔ 1 ≤ x ∧ x ≤ k
  | 0, _ => ⟨rfl, fun x => by simp [fl, qHas]; omega⟩
  | k + 1, hk => by
    obtain ⟨h1, h2⟩ := fl_has k (by omega)
    have hn : qHas (fl k) (fpay (k + 1)).id = false := by
      rw [← Bool.not_eq_true, h2]
      show ¬ (1 ≤ ((k + 1 : Nat) : Int) ∧ ((k + 1 : Nat) : Int) ≤ k)
      omega
    have e : fl (k + 1) = qIns (fl k) (qBeh (fl k) (fpay (k + 1))) (fpay (k + 1)) := (put_ins hn (by omega)).1
    rw [e]
    refine ⟨by rw [qIns_len (qBeh_le _ _)]; omega, fun x => ?_⟩
    rw [ins_has, h2]
    show ((k + 1 : Nat) : Int) = x ∨ _ ↔ _
    omega
theorem fl_more (d : Nat) : fl (40 + d) = fl 40 := by
  induction d with
  | zero => rfl
  | succ d ih =>
    have h : qHas (fl (40 + d)) (fpay (40 + d + 1)).id = false := by
      rw [ih, ← Bool.not_eq_true, (fl_has 40 (by omega)).2]
      show ¬ (1 ≤ ((40 + d + 1 : Nat) : Int) ∧ ((40 + d + 1 : Nat) : Int) ≤ 40)
      omega
    have : fl (40 + d + 1) = fl (40 + d) := (put_full h (by rw [ih, (fl_has 40 (by omega)).1]; omega)).1
    rw [show 40 + (d + 1) = 40 + d + 1 from rfl, this, ih]
theorem fl_e0 {k : Nat} (h : k < 40) : qPutE (fl k) (fpay (k + 1)) = 0 := by
  obtain ⟨h1, h2⟩ := fl_has k (by omega)
  exact (put_ins (by
    rw [← Bool.not_eq_true, h2]
    show ¬ (1 ≤ ((k + 1 : Nat) : Int) ∧ ((k + 1 : Nat) : Int) ≤ k)
    omega) (by omega)).2
theorem fl_e3 {k : Nat} (h : 40 ≤ k) : qPutE (fl k) (fpay (k + 1)) = 3 := by
  obtain ⟨d, rfl⟩ : ∃ d, k = 40 + d := ⟨k - 40, by omega⟩
  obtain ⟨h1, h2⟩ := fl_has 40 (by omega)
  rw [fl_more]
  exact (put_full (by
    rw [← Bool.not_eq_true, h2]
    show ¬ (1 ≤ ((40 + d + 1 : Nat) : Int) ∧ ((40 + d + 1 : Nat) : Int) ≤ 40)
    omega) (by omega)).2
def f900 : P7 := (900, 0, 0, 0, 1, 0, 0)
def f6 : P7 := (6, 0, 0, 0, 0, 0, 0)
theorem full_end {L : List P7} {d : Nat} (hL : L = fl (40 + d)) : Que L ∧ L.length = 40 ∧ qDropE L 5 = 0 ∧ (qDropP L 5).id = 5 ∧ Que (qDrop L 5) ∧ qPutE (qDrop L 5) f900 = 0 ∧ qPutE (qDrop L 5) f6 = 6 := by
  rw [fl_more] at hL
  subst hL
  obtain ⟨h1, h2⟩ := fl_has 40 (by omega)
  have h5 : qHas (fl 40) 5 = true := (h2 5).2 (by omega)
  have h9 : qHas (fl 40) 900 = false := by rw [← Bool.not_eq_true, h2]; omega
  have hq := fl_que 40
  refine ⟨hq, h1, (drop_yes h5).2.2, dropP_id h5, hq.drop 5, ?_, ?_⟩
  · exact (put_ins (p := f900) (drop_has_le h9) (by rw [drop_len h5, h1]; omega)).2
  · exact (put_has (p := f6) (drop_has_ne (by decide) ((h2 6).2 (by omega)))).2

namespace Walk

theorem rowFull_out (m : Int) (w : World) (h : m < 0 ∨ 20 < m) : Calls Try.prog 6 #[.int .i64 m] w fun e w' => e = .returned (.bool true) ∧ Below w.heap.size w w' := by
  rcases h with h | h
  · go_enter Try.func6, Try.ntmps6
    go_wp2
    go_ret
    exact ⟨rfl, Below.refl _ _⟩
  · have h' : ¬ m < 0 := by omega
    go_enter Try.func6, Try.ntmps6
    go_wp2
    go_ret
    exact ⟨rfl, Below.refl _ _⟩

set_option maxHeartbeats 4000000 in
set_option maxRecDepth 100000 in
theorem rowFull_in (m : Nat) (w : World) (h : m ≤ 20) : Calls Try.prog 6 #[.int .i64 m] w fun e w' => e = .returned (.bool true) ∧ Below w.heap.size w w' := by
  have m0 : (0 : Int) ≤ (m : Int) := by omega
  have m1 : (m : Int) ≤ 20 := by omega
  go_enter Try.func6, Try.ntmps6
  go_wp2
  go_loopw [3, 4] (fun l i wr => ∃ (j n c : Nat) (a : Option Addr), .slice a n c = l ∧ i = .int .i64 (j + 1 : Nat) ∧ j ≤ 40 + m ∧ Hid (PGood wr a n c (fl j)) ∧ Hid (Below w.heap.size w wr)) (fun _ i _ => 42 + m - (intOf i).toNat)
  case atStart => exact ⟨0, 0, 0, none, rfl, rfl, by omega, PGood.nil _, Below.refl _ _⟩
  case round =>
    obtain ⟨j, n, c, a, rfl, rfl, hj, HG, HB⟩ := hrel
    have P1 := put_any7 a n c (fl j) (fpay (j + 1)) wr HG.out (fl_que j)
    have hn := HG.out.len
    by_cases hlt : j < 40 + m
    · have j1 : ((j + 1 : Nat) : Int) ≤ 40 + (m : Int) := by omega
      have j0 : (0 : Int) ≤ ((j + 1 : Nat) : Int) := by omega
      have j2 : ((j + 1 : Nat) : Int) ≤ 60 := by omega
      unfold PutEnd7 at P1
      rw [show qPut (fl j) (fpay (j + 1)) = fl (j + 1) from rfl] at P1
      obtain ⟨ee, hee⟩ : ∃ ee, qPutE (fl j) (fpay (j + 1)) = ee := ⟨_, rfl⟩
      rw [hee] at P1
      have P2 : Calls Try.prog 8 #[.slice a n c, .agg #[.int .i64 ((j + 1 : Nat) : Int), .int .i64 (((j + 1 : Nat) : Int) % 4), .int .i64 0, .int .i64 0, .int .i64 (1 + ((j + 1 : Nat) : Int) % 3), .int .i64 0, .int .i64 0]] wr _ := P1
      obtain ⟨J, hJ⟩ : ∃ J, J = j + 1 := ⟨_, rfl⟩
      have HJ : Hid (J = j + 1) := hJ
      rw [← hJ] at P2 j1 j0 j2 ⊢
      obtain ⟨nl, hnl⟩ : ∃ nl, (fl J).length = nl := ⟨_, rfl⟩
      rw [hnl] at P2
      have HNL : Hid ((fl J).length = nl) := hnl
      by_cases h40 : j < 40
      · obtain rfl : ee = 0 := by rw [← hee]; exact fl_e0 h40
        have j3 : (J : Int) ≤ 40 := by omega
        clear P1 hn hJ hnl hlt h40 hee
        go_wp2_with fail
        go_at_call 8
        refine P2.mono ?_
        rintro e w1 ⟨a1, c1, rfl, g1, n1, hb⟩
        have G1 : Hid (PGood w1 a1 nl c1 (fl J)) := g1
        have B1 : Hid (Below w.heap.size w w1) := HB.out.trans (hb.mono HB.out.size)
        clear hb g1 n1 P2
        go_wp2
        go_roundw
        case rel => exact ⟨J, nl, c1, a1, rfl, by go_num, by have := HJ.out; omega, G1, B1⟩
        case measure => simp [intOf]; omega
      · obtain rfl : ee = 3 := by rw [← hee]; exact fl_e3 (by omega)
        have j3 : ¬ (J : Int) ≤ 40 := by omega
        clear P1 hn hJ hnl hlt h40 hee
        go_wp2_with fail
        go_at_call 8
        refine P2.mono ?_
        rintro e w1 ⟨a1, c1, rfl, g1, n1, hb⟩
        have G1 : Hid (PGood w1 a1 nl c1 (fl J)) := g1
        have B1 : Hid (Below w.heap.size w w1) := HB.out.trans (hb.mono HB.out.size)
        clear hb g1 n1 P2
        go_wp2
        go_roundw
        case rel => exact ⟨J, nl, c1, a1, rfl, by go_num, by have := HJ.out; omega, G1, B1⟩
        case measure => simp [intOf]; omega
    · obtain rfl : j = 40 + m := by omega
      obtain ⟨L, hL⟩ : ∃ L, L = fl (40 + m) := ⟨_, rfl⟩
      obtain ⟨e1, e2, e3, e4, e5, e6, e7⟩ := full_end hL
      rw [← hL] at HG hn
      have hn40 : n = 40 := by omega
      subst hn40
      have D := drop_any7 a 40 c L 5 wr HG.out (by omega)
      rw [e3] at D
      obtain ⟨M, hM⟩ : ∃ M, qDrop L 5 = M := ⟨_, rfl⟩
      obtain ⟨p, hp⟩ : ∃ p, qDropP L 5 = p := ⟨_, rfl⟩
      rw [hM] at D e5 e6 e7
      rw [hp] at D e4
      obtain ⟨p0, p1, p2, p3, p4, p5, p6⟩ := p
      obtain rfl : p0 = 5 := e4
      obtain ⟨ml, hml⟩ : ∃ ml, M.length = ml := ⟨_, rfl⟩
      unfold DropEnd7 at D
      rw [hml] at D
      have Q1 := fun u a1 c1 (g : PGood u a1 ml c1 M) => put_any7 a1 ml c1 M f900 u g e5
      have Q2 := fun u a1 c1 (g : PGood u a1 ml c1 M) => put_any7 a1 ml c1 M f6 u g e5
      rw [e6] at Q1
      rw [e7] at Q2
      rw [show f900 = (900, 0, 0, 0, 1, 0, 0) from rfl] at Q1
      rw [show f6 = (6, 0, 0, 0, 0, 0, 0) from rfl] at Q2
      unfold PutEnd7 at Q1 Q2
      obtain ⟨n1, hn1⟩ : ∃ n1, (qPut M (900, 0, 0, 0, 1, 0, 0)).length = n1 := ⟨_, rfl⟩
      obtain ⟨n2, hn2⟩ : ∃ n2, (qPut M (6, 0, 0, 0, 0, 0, 0)).length = n2 := ⟨_, rfl⟩
      simp only [hn1] at Q1
      simp only [hn2] at Q2
      have j1 : ¬ ((40 + m + 1 : Nat) : Int) ≤ 40 + (m : Int) := by omega
      obtain ⟨J, hJ⟩ : ∃ J : Nat, J = 40 + m + 1 := ⟨_, rfl⟩
      rw [← hJ] at j1 ⊢
      clear hJ P1 hn hlt hL e1 e2 e3 e5 e6 e7 hM hp hml hn1 hn2 HG hj
      go_wp2_with fail
      go_at_call 10
      refine D.mono ?_
      rintro e w1 ⟨a1, c1, rfl, g1, u1, hb⟩
      obtain ⟨w2, hw2⟩ : ∃ w2, w2 = w1.alloc (.cells #[.int .i64 5, .int .i64 p1, .int .i64 p2, .int .i64 p3, .int .i64 p4, .int .i64 p5, .int .i64 p6] 25) := ⟨_, rfl⟩
      have B2 : Hid (Below w.heap.size w w2) := by rw [hw2]; exact HB.out.trans ((hb.alloc hb.size _).mono HB.out.size)
      have G2 : Hid (PGood w2 a1 ml c1 M) := by rw [hw2]; exact g1.below (box_below _ _)
      have X2 : Hid (At7 w2 w1.heap.size 0 (5, p1, p2, p3, p4, p5, p6)) := by rw [hw2]; exact At7.new w1 (5, p1, p2, p3, p4, p5, p6) _ _
      have HW : Hid (w2 = _) := hw2
      have Q1' := Q1 w2 a1 c1 G2.out
      rw [hw2] at Q1'
      clear hb g1 u1 D hw2 Q1
      go_wp2_with fail
      go_at_call 8
      refine Q1'.mono ?_
      rintro e w3 ⟨a3, c3, rfl, g3, u3, hb⟩
      rw [← HW.out] at hb
      have B3 : Hid (Below w.heap.size w w3) := B2.out.trans (hb.mono B2.out.size)
      have X3 : Hid (At7 w3 w1.heap.size 0 (5, p1, p2, p3, p4, p5, p6)) := X2.out.below hb
      have Q2' := Q2 w3 a1 c1 (G2.out.below hb)
      clear hb g3 u3 Q1' HW X2 G2 Q2
      go_wp2_with fail
      go_at_call 8
      refine Q2'.mono ?_
      rintro e w4 ⟨a4, c4, rfl, g4, u4, hb⟩
      have B4 : Hid (Below w.heap.size w w4) := B3.out.trans (hb.mono B3.out.size)
      obtain ⟨z0, -⟩ := X3.out.below hb
      clear hb g4 u4 Q2' X3
      go_wp2_with fail
      go_at_call 22
      refine (known13 _).mono ?_
      rintro e w9 ⟨rfl, hb9⟩
      have B9 : Hid (Below w.heap.size w w9) := B4.out.trans (hb9.mono B4.out.size)
      clear hb9
      go_wp2
      go_ret
      exact ⟨rfl, B9.out⟩

theorem rowFull (m : Int) (w : World) (h : (Lit.int .i64 m).wf = true) : Calls Try.prog 6 #[.int .i64 m] w fun e w' => e = .returned (.bool true) ∧ Below w.heap.size w w' := by
  by_cases hm : m < 0 ∨ 20 < m
  · exact rowFull_out m w hm
  · obtain ⟨k, rfl⟩ : ∃ k : Nat, m = k := ⟨m.toNat, by omega⟩
    exact rowFull_in k w (by omega)

end Walk
end Go.Proofs.Ytjibnbheegcnkaa
