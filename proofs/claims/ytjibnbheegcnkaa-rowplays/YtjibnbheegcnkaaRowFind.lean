/-
  row.Find, giroref13.Find; slices.IndexFunc.
-/
import Derived.Test.YtjibnbheegcnkaaRowSpec
import Derived.Test.YtjibnbheegcnkaaPayRows
namespace Go.Proofs.Ytjibnbheegcnkaa
open Go.RowKit
set_option linter.unusedVariables false
set_option linter.unusedSimpArgs false

theorem findF_any (p : P7) (g : Nat) (x : Int) (w : World) (h : w.cell? ⟨g, 0, none⟩ = some (.int .i64 x)) : Calls Try.prog 33 #[p.val, .pointer (some ⟨g, 0, none⟩)] w fun e w' => e = .returned (.bool (p.id == x)) ∧ Below w.heap.size w w' := by
  obtain ⟨i1, f1, o1, m1, c1, s1, u1⟩ := p
  have hg := block_lt_of_cell h
  have hb := box_below w (.cells #[.int .i64 i1, .int .i64 f1, .int .i64 o1, .int .i64 m1, .int .i64 c1, .int .i64 s1, .int .i64 u1] 25)
  have h' := (hb.cell (p := ⟨g, 0, none⟩) hg).trans h
  have HB : Hid (Below w.heap.size w _) := hb
  clear hb h hg
  go_enter Try.func33, Try.ntmps33
  go_wp2
  go_ret
  exact ⟨rfl, HB.out⟩

theorem index_none (a : Option Addr) (c : Nat) (f : Value) (w : World) : Calls Try.prog 32 #[.slice a 0 c, f] w fun e w' => e = .returned (.int .i64 (-1)) ∧ w' = w := by
  go_enter Try.func32, Try.ntmps32
  go_wp2
  refine wp_loop_rounds 1 ?_
  rw [rounds_succ]
  go_wp2
  go_ret
  exact ⟨rfl, rfl⟩

set_option maxHeartbeats 4000000 in
theorem index_row (b off c g : Nat) (x : Int) (L : List P7) (w : World) (hm : L.length ≤ 1000000) (hg : w.cell? ⟨g, 0, none⟩ = some (.int .i64 x)) (hc : ∀ i, i < L.length → At7 w b (off + i * 7) (L.getD i p70)) :
    Calls Try.prog 32 #[.slice (some ⟨b, off, none⟩) L.length c, .func (.func 33) #[] #[.pointer (some ⟨g, 0, none⟩)]] w fun e w' => e = .returned (.int .i64 (qFind L x)) ∧ Below w.heap.size w w' := by
  have HC : Hid (∀ i, i < L.length → At7 w b (off + i * 7) (L.getD i p70)) := hc
  have HG : Hid (w.cell? ⟨g, 0, none⟩ = some (.int .i64 x)) := hg
  clear hc hg
  go_enter Try.func32, Try.ntmps32
  go_wp2
  go_loopw [8] (fun i wr => ∃ k : Nat, k ≤ L.length ∧ i = .int .i64 k ∧ Hid (∀ t, t < k → ¬ (L.getD t p70).id = x) ∧ Hid (Below w.heap.size w wr)) (fun i _ => L.length - (intOf i).toNat)
  case atStart => exact ⟨0, by omega, rfl, fun t ht => by omega, Below.refl _ _⟩
  case round =>
    obtain ⟨k, hk, rfl, HP, HB⟩ := hrel
    by_cases hlt : k < L.length
    · have i1 : (k : Int) < (L.length : Int) := by omega
      have G1 : wr.cell? ⟨g, 0, none⟩ = some (.int .i64 x) := (HB.out.cell (p := ⟨g, 0, none⟩) (block_lt_of_cell HG.out)).trans HG.out
      obtain ⟨p0, p1, p2, p3, p4, p5, p6⟩ := (HC.out k hlt).below HB.out
      obtain ⟨y, hy⟩ : ∃ y, L.getD k p70 = y := ⟨_, rfl⟩
      rw [hy] at p0 p1 p2 p3 p4 p5 p6
      have HY : Hid (L.getD k p70 = y) := hy
      clear hy
      obtain ⟨y0, y1, y2, y3, y4, y5, y6⟩ := y
      simp only [P7.id, P7.fr, P7.to, P7.am, P7.cl, P7.st, P7.ti] at p0 p1 p2 p3 p4 p5 p6
      have F := findF_any (y0, y1, y2, y3, y4, y5, y6) g x wr G1
      clear G1 HC HG
      by_cases hyx : y0 = x
      · have HD : Hid ((k : Int) = qFind L x) := by
          have := find_yes hlt HP.out (by rw [HY.out]; exact hyx)
          show (k : Int) = qFind L x
          rw [qFind_yes this.1, this.2]
        have he : (P7.id (y0, y1, y2, y3, y4, y5, y6) == x) = true := by simpa using hyx
        rw [he] at F
        clear he hyx
        go_wp2_with fail
        go_at_call 33
        refine F.mono ?_
        rintro e w1 ⟨rfl, hb1⟩
        have B1 : Hid (Below w.heap.size w w1) := HB.out.trans (hb1.mono HB.out.size)
        clear hb1 p0 p1 p2 p3 p4 p5 p6 F
        go_wp2
        go_ret
        exact ⟨rt_int HD.out, B1.out⟩
      · have he : (P7.id (y0, y1, y2, y3, y4, y5, y6) == x) = false := by simpa using hyx
        have HN : Hid (¬ y0 = x) := hyx
        rw [he] at F
        clear he hyx
        go_wp2_with fail
        go_at_call 33
        refine F.mono ?_
        rintro e w1 ⟨rfl, hb1⟩
        have B1 : Hid (Below w.heap.size w w1) := HB.out.trans (hb1.mono HB.out.size)
        clear hb1 p0 p1 p2 p3 p4 p5 p6 F
        go_wp2
        go_roundw
        case rel =>
          refine ⟨k + 1, by omega, by go_num, fun t ht => ?_, B1⟩
          by_cases htk : t < k
          · exact HP.out t htk
          · obtain rfl : t = k := by omega
            rw [HY.out]
            exact HN.out
        case measure => simp [intOf]; omega
    · obtain rfl : k = L.length := by omega
      have HD : Hid (-1 = qFind L x) := (qFind_no (find_no HP.out)).symm
      clear HC HG
      go_wp2
      go_ret
      exact ⟨rt_int HD.out, HB.out⟩

theorem index_any (a : Option Addr) (n c g : Nat) (x : Int) (L : List P7) (w : World) (hm : n ≤ 1000000) (hg : w.cell? ⟨g, 0, none⟩ = some (.int .i64 x)) (h : Pays w a n L) :
    Calls Try.prog 32 #[.slice a n c, .func (.func 33) #[] #[.pointer (some ⟨g, 0, none⟩)]] w fun e w' => e = .returned (.int .i64 (qFind L x)) ∧ Below w.heap.size w w' := by
  have l := h.1
  subst l
  rcases h.2 with h0 | ⟨b, off, rfl, hc⟩
  · subst h0
    refine (index_none a c _ w).mono ?_
    rintro e w' ⟨rfl, rfl⟩
    exact ⟨rfl, Below.refl _ _⟩
  · exact index_row b off c g x L w hm hg hc

set_option maxHeartbeats 1000000 in
theorem find_any (a : Option Addr) (n c : Nat) (x : Int) (L : List P7) (w : World) (hm : n ≤ 1000000) (h : Pays w a n L) :
    Calls Try.prog 18 #[.slice a n c, .int .i64 x] w fun e w' => e = .returned (.int .i64 (qFind L x)) ∧ Below w.heap.size w w' := by
  have I := index_any a n c w.heap.size x L (w.alloc (.cells #[.int .i64 x] 2)) hm (by rw [cell_new]; rfl) (h.below (box_below _ _))
  clear h
  go_enter Try.func18, Try.ntmps18
  go_wp2_with fail
  go_at_call 32
  refine I.mono ?_
  rintro e w1 ⟨rfl, hb⟩
  have B1 : Hid (Below w.heap.size w w1) := (box_below _ _).trans (hb.mono (box_below _ _).size)
  clear hb I
  go_wp2
  go_ret
  exact ⟨rfl, B1.out⟩

theorem refFind_none (a : Option Addr) (c : Nat) (x : Int) (w : World) : Calls Try.prog 19 #[.slice a 0 c, .int .i64 x] w fun e w' => e = .returned (.int .i64 (-1)) ∧ w' = w := by
  go_enter Try.func19, Try.ntmps19
  go_wp2
  refine wp_loop_rounds 1 ?_
  rw [rounds_succ]
  go_wp2
  go_ret
  exact ⟨rfl, rfl⟩

set_option maxHeartbeats 4000000 in
theorem refFind_row (b off c : Nat) (x : Int) (L : List P7) (w : World) (hm : L.length ≤ 1000000) (hc : ∀ i, i < L.length → At7 w b (off + i * 7) (L.getD i p70)) :
    Calls Try.prog 19 #[.slice (some ⟨b, off, none⟩) L.length c, .int .i64 x] w fun e w' => e = .returned (.int .i64 (qFind L x)) ∧ w' = w := by
  have HC : Hid (∀ i, i < L.length → At7 w b (off + i * 7) (L.getD i p70)) := hc
  clear hc
  go_enter Try.func19, Try.ntmps19
  go_wp2
  go_loop [5] (fun i => ∃ k : Nat, k ≤ L.length ∧ i = .int .i64 k ∧ Hid (∀ t, t < k → ¬ (L.getD t p70).id = x)) (fun i => L.length - (intOf i).toNat)
  case atStart => exact ⟨0, by omega, rfl, fun t ht => by omega⟩
  case round =>
    obtain ⟨k, hk, rfl, HP⟩ := hrel
    by_cases hlt : k < L.length
    · have i1 : (k : Int) < (L.length : Int) := by omega
      obtain ⟨p0, -⟩ := HC.out k hlt
      obtain ⟨y, hy⟩ : ∃ y, (L.getD k p70).id = y := ⟨_, rfl⟩
      rw [hy] at p0
      have HY : Hid ((L.getD k p70).id = y) := hy
      clear hy HC
      by_cases hyx : y = x
      · have HD : Hid ((k : Int) = qFind L x) := by
          have := find_yes hlt HP.out (by rw [HY.out]; exact hyx)
          show (k : Int) = qFind L x
          rw [qFind_yes this.1, this.2]
        subst hyx
        go_wp2
        go_ret
        exact ⟨rt_int HD.out, rfl⟩
      · have he : (y == x) = false := by simpa using hyx
        go_wp2
        go_round
        case rel =>
          refine ⟨k + 1, by omega, by go_num, fun t ht => ?_⟩
          by_cases htk : t < k
          · exact HP.out t htk
          · obtain rfl : t = k := by omega
            rw [HY.out]
            exact hyx
        case measure => simp [intOf]; omega
    · obtain rfl : k = L.length := by omega
      have HD : Hid (-1 = qFind L x) := (qFind_no (find_no HP.out)).symm
      clear HC
      go_wp2
      go_ret
      exact ⟨rt_int HD.out, rfl⟩

theorem refFind_any (a : Option Addr) (n c : Nat) (x : Int) (L : List P7) (w : World) (hm : n ≤ 1000000) (h : Pays w a n L) :
    Calls Try.prog 19 #[.slice a n c, .int .i64 x] w fun e w' => e = .returned (.int .i64 (qFind L x)) ∧ w' = w := by
  have l := h.1
  subst l
  rcases h.2 with h0 | ⟨b, off, rfl, hc⟩
  · subst h0
    exact refFind_none a c x w
  · exact refFind_row b off c x L w hm hc

end Go.Proofs.Ytjibnbheegcnkaa
