/-
  The walk of FitsTells.
-/
import Derived.Test.YtdikimddkhahdaaKnown15
import Derived.Test.YtdikimddkhahdaaFitsRefs
import Derived.Test.YtdikimddkhahdaaLimTwo
import Derived.Test.YtdikimddkhahdaaRowBase
namespace Go.Proofs.Ytdikimddkhahdaa
open Go.RowKit
set_option linter.unusedVariables false
set_option linter.unusedSimpArgs false

theorem short_yes {b : Bks} {L : List P7} (h : allB b L = true) : (if allB b L then shortL b L else []) = shortL b L := by rw [h]; rfl
/-- Two rows of ints that are one, held against each other. -/
theorem ints_self {a d : Option Addr} {c e0 : Nat} {l : List Nat} {u : World} (h : IGood u a l.length c l) (k : IGood u d l.length e0 l) :
    Calls Try.prog 15 #[.slice a l.length c, .slice d l.length e0] u fun e w' => ∃ v, e = .returned v ∧ Below u.heap.size u w' ∧ (Fact.is (.bool true)).1 w' v := by
  have := ints_any a d l.length c l.length e0 l l u h k
  rw [show intsB l l = true from decide_eq_true rfl] at this
  exact bool_fact this

set_option maxHeartbeats 8000000 in
set_option maxRecDepth 100000 in
theorem Walk.fitsTells (x : BA) (b : Bks) (a : Option Addr) (n c : Nat) (L : List P7) (w : World) (hk : Bk w x b) (hp : PaysIn w a n c L) : Calls Try.prog 3 #[x.val, .slice a n c] w fun e w' => e = .returned (.bool true) ∧ Below w.heap.size w w' := by
  have HLA : Hid (x.nA = b.A.length) := hk.acc.1
  have HG : Hid (PGood w a n c L) := hp.good
  have HL : Hid (n = L.length) := hp.good.len
  have ISB := fun u (hu : Below w.heap.size w u) => refBooksIs_any x b u (hk.below hu)
  have HBK : Hid (Bk w x b) := hk
  have MY := fun (p : P7) u => fitsMay_any x p u
  have RMY := fun (p : P7) u => refFMay_any x p u
  have CF : Hid (Good b → ∀ u, Below w.heap.size w u → Calls Try.prog 12 #[x.val, .slice a n c] u fun e w' => e = .returned (.bool (fitsB b L)) ∧ Below u.heap.size u w') := fun g u hu => fitsFits_any x b a n c L u (HBK.out.below hu) g (HG.out.below hu)
  have RF : Hid (Good b → ∀ u, Below w.heap.size w u → Calls Try.prog 13 #[x.val, .slice a n c] u fun e w' => e = .returned (.bool (fitsB b L)) ∧ Below u.heap.size u w') := fun g u hu => refFFits_any x b a n c L u (HBK.out.below hu) g (HG.out.below hu)
  have RA : Hid (∀ u, Below w.heap.size w u → Calls Try.prog 14 #[x.val, .slice a n c] u fun e w' => e = .returned (.bool (allB b L)) ∧ Below u.heap.size u w') := fun u hu => refFAll_any x b a n c L u HLA.out (HG.out.below hu)
  have CS : Hid (Good b → allB b L = true → ∀ u, Below w.heap.size w u → Calls Try.prog 16 #[x.val, .slice a n c] u (IEnd u (shortL b L))) := fun g hA u hu => by
    have := fitsShort_any x b a n c L u (HBK.out.below hu) g (HG.out.below hu)
    rwa [short_yes hA] at this
  have RS : Hid (Good b → allB b L = true → ∀ u, Below w.heap.size w u → Calls Try.prog 17 #[x.val, .slice a n c] u (IEnd u (shortL b L))) := fun g hA u hu => refFShort_any x b a n c L u (HBK.out.below hu) g (HG.out.below hu) (by have := (allB_mv g hA).1; have := HL.out; omega) (allB_mv g hA).2.1
  have K := known15
  obtain ⟨aA, nA, cA, aB, nB, cB, aM, nM, cM, aP, nP, cP⟩ := x
  obtain ⟨w2, hw2⟩ : ∃ w2, w2 = w.alloc (.cells #[.slice aA nA cA, .slice aB nB cB, .slice aM nM cM, .slice aP nP cP] 26) := ⟨_, rfl⟩
  have B2 : Hid (Below w.heap.size w w2) := by rw [hw2]; exact box_below _ _
  have X2 : Hid (Box4 w2 w.heap.size ⟨aA, nA, cA, aB, nB, cB, aM, nM, cM, aP, nP, cP⟩) := by rw [hw2]; exact Box4.new w ⟨aA, nA, cA, aB, nB, cB, aM, nM, cM, aP, nP, cP⟩ _ _
  have I := ISB w2 B2.out
  have HM1 : Hid (∀ (z0 z1 z2 z3 z4 z5 z6 : Int) (u : World), Calls Try.prog 10 #[.agg #[.slice aA nA cA, .slice aB nB cB, .slice aM nM cM, .slice aP nP cP], .agg #[.int .i64 z0, .int .i64 z1, .int .i64 z2, .int .i64 z3, .int .i64 z4, .int .i64 z5, .int .i64 z6]] u fun e w' => e = .returned (.bool (mayB nA (z0, z1, z2, z3, z4, z5, z6))) ∧ Below u.heap.size u w') := fun z0 z1 z2 z3 z4 z5 z6 u => MY (z0, z1, z2, z3, z4, z5, z6) u
  have HM2 : Hid (∀ (z0 z1 z2 z3 z4 z5 z6 : Int) (u : World), Calls Try.prog 11 #[.agg #[.slice aA nA cA, .slice aB nB cB, .slice aM nM cM, .slice aP nP cP], .agg #[.int .i64 z0, .int .i64 z1, .int .i64 z2, .int .i64 z3, .int .i64 z4, .int .i64 z5, .int .i64 z6]] u fun e w' => e = .returned (.bool (mayB nA (z0, z1, z2, z3, z4, z5, z6))) ∧ Below u.heap.size u w') := fun z0 z1 z2 z3 z4 z5 z6 u => RMY (z0, z1, z2, z3, z4, z5, z6) u
  have CF2 : Hid (Good b → ∀ u, Below w2.heap.size w2 u → Calls Try.prog 12 #[.agg #[.slice aA nA cA, .slice aB nB cB, .slice aM nM cM, .slice aP nP cP], .slice a n c] u fun e w' => e = .returned (.bool (fitsB b L)) ∧ Below u.heap.size u w') := fun g u hu => CF.out g u (B2.out.trans (hu.mono B2.out.size))
  have RF2 : Hid (Good b → ∀ u, Below w2.heap.size w2 u → Calls Try.prog 13 #[.agg #[.slice aA nA cA, .slice aB nB cB, .slice aM nM cM, .slice aP nP cP], .slice a n c] u fun e w' => e = .returned (.bool (fitsB b L)) ∧ Below u.heap.size u w') := fun g u hu => RF.out g u (B2.out.trans (hu.mono B2.out.size))
  have RA2 : Hid (∀ u, Below w2.heap.size w2 u → Calls Try.prog 14 #[.agg #[.slice aA nA cA, .slice aB nB cB, .slice aM nM cM, .slice aP nP cP], .slice a n c] u fun e w' => e = .returned (.bool (allB b L)) ∧ Below u.heap.size u w') := fun u hu => RA.out u (B2.out.trans (hu.mono B2.out.size))
  have CS2 : Hid (Good b → allB b L = true → ∀ u, Below w2.heap.size w2 u → Calls Try.prog 16 #[.agg #[.slice aA nA cA, .slice aB nB cB, .slice aM nM cM, .slice aP nP cP], .slice a n c] u (IEnd u (shortL b L))) := fun g hA u hu => CS.out g hA u (B2.out.trans (hu.mono B2.out.size))
  have RS2 : Hid (Good b → allB b L = true → ∀ u, Below w2.heap.size w2 u → Calls Try.prog 17 #[.agg #[.slice aA nA cA, .slice aB nB cB, .slice aM nM cM, .slice aP nP cP], .slice a n c] u (IEnd u (shortL b L))) := fun g hA u hu => RS.out g hA u (B2.out.trans (hu.mono B2.out.size))
  obtain ⟨p0, p1, p2, p3⟩ := X2.out
  replace p0 : w2.cell? ⟨w.heap.size, 0, none⟩ = some (.slice aA nA cA) := p0
  replace p1 : w2.cell? ⟨w.heap.size, 1, none⟩ = some (.slice aB nB cB) := p1
  replace p2 : w2.cell? ⟨w.heap.size, 2, none⟩ = some (.slice aM nM cM) := p2
  replace p3 : w2.cell? ⟨w.heap.size, 3, none⟩ = some (.slice aP nP cP) := p3
  obtain ⟨q, hq⟩ : ∃ q, booksB b = q := ⟨_, rfl⟩
  have HQ : Hid (booksB b = q) := hq
  rw [hq] at I
  clear hq MY RMY CF RF RA CS RS ISB hk hp HLA HBK
  go_enter Try.func3, Try.ntmps3
  go_upto_region 1 with fail
  rw [← hw2]
  clear hw2
  go_wp2_with fail
  go_at_call 9
  refine I.mono ?_
  rintro e w3 ⟨rfl, hb⟩
  have B3 : Hid (Below w2.heap.size w2 w3) := hb
  have BW3 : Hid (Below w.heap.size w w3) := B2.out.trans (hb.mono B2.out.size)
  clear hb I p0 p1 p2 p3
  cases q with
  | false =>
    go_wp2
    go_ret
    exact ⟨rfl, BW3.out⟩
  | true =>
  have GB : Hid (Good b) := booksB_yes.1 HQ.out
  rcases Nat.lt_or_ge 70 n with h70 | h70
  · have h1 : (70 : Int) < (n : Int) := by omega
    clear h70
    go_wp2
    go_ret
    exact ⟨rfl, BW3.out⟩
  have h1 : (n : Int) ≤ 70 := by omega
  have h2 : decide ((70 : Int) < (n : Int)) = false := decide_eq_false (by omega)
  go_wp2
  go_loopw [5] (fun t wr => ∃ k : Nat, k ≤ n ∧ t = .int .i64 k ∧ Hid (Below w2.heap.size w2 wr)) (fun t _ => n - (intOf t).toNat)
  case atStart => exact ⟨0, by omega, rfl, B3.out⟩
  case round =>
    obtain ⟨k, hk, rfl, HB⟩ := hrel
    have BW : Hid (Below w.heap.size w wr) := B2.out.trans (HB.out.mono B2.out.size)
    have X3 : Hid (Box4 wr w.heap.size ⟨aA, nA, cA, aB, nB, cB, aM, nM, cM, aP, nP, cP⟩) := X2.out.below HB.out
    by_cases hlt : k < n
    · have k1 : (k : Int) < (n : Int) := by omega
      obtain ⟨ba, off, rfl, HC⟩ := HG.out.at hlt
      have C0 := (HC k hlt).below BW.out
      generalize L.getD k p70 = y at C0
      obtain ⟨x0, x1, x2, x3, x4, x5, x6⟩ := y
      have C : Hid (At7 wr ba (off + k * 7) (x0, x1, x2, x3, x4, x5, x6)) := C0
      have M1 := fun u => HM1.out x0 x1 x2 x3 x4 x5 x6 u
      have M2 := fun u => HM2.out x0 x1 x2 x3 x4 x5 x6 u
      generalize mayB nA (x0, x1, x2, x3, x4, x5, x6) = mq at M1 M2
      clear HC C0
      go_wp2_with fail
      refine region_owes (L := [Fact.is (.agg #[.slice aA nA cA, .slice aB nB cB, .slice aM nM cM, .slice aP nP cP]),
        Fact.is (.slice (some ⟨ba, off, none⟩) n c),
        Fact.is (.int .i64 k),
        Fact.is (.pointer (some ⟨ba, off + k * 7, none⟩)),
        Fact.is (.agg #[.int .i64 x0, .int .i64 x1, .int .i64 x2, .int .i64 x3, .int .i64 x4, .int .i64 x5, .int .i64 x6]),
        Fact.is (.bool mq),
        Fact.is (.agg #[.slice aA nA cA, .slice aB nB cB, .slice aM nM cM, .slice aP nP cP]),
        Fact.is (.slice (some ⟨ba, off, none⟩) n c),
        Fact.is (.int .i64 k),
        Fact.is (.pointer (some ⟨ba, off + k * 7, none⟩)),
        Fact.is (.agg #[.int .i64 x0, .int .i64 x1, .int .i64 x2, .int .i64 x3, .int .i64 x4, .int .i64 x5, .int .i64 x6]),
        Fact.is (.bool mq),
        Fact.is (.bool false)])
        (T := [20, 21, 22, 23, 24, 25, 26, 27, 28, 29, 30, 31, 32]) (by kernel_rfl) (by kernel_rfl) rfl ?owes ?_
      case owes =>
        refine .cons (owes_value fun q u lh => ⟨wants_free rfl, .agg #[.slice aA nA cA, .slice aB nB cB, .slice aM nM cM, .slice aP nP cP], by have e2 : q.tmps.getD 2 undef = .pointer (some ⟨w.heap.size, 0, none⟩) := lh.old 2 rfl; obtain ⟨p0, p1, p2, p3⟩ := X3.out.below lh.below; simp [execOp, Act.eval, e2, p0, p1, p2, p3, go_sem], rfl⟩) ?_
        refine .cons (owes_move (.tmp 1) (.inl rfl) fun q u lh => ⟨wants_free rfl, lh.old 1 rfl⟩) ?_
        refine .cons (owes_move (.tmp 5) (.inl rfl) fun q u lh => ⟨wants_free rfl, lh.old 5 rfl⟩) ?_
        refine .cons (owes_value fun q u lh => ⟨wants_free rfl, .pointer (some ⟨ba, off + k * 7, none⟩), by have e21 : q.tmps.getD 21 undef = .slice (some ⟨ba, off, none⟩) n c := lh.dep 1 rfl; have e22 : q.tmps.getD 22 undef = .int .i64 k := lh.dep 2 rfl; simp [execOp, Act.eval, e21, e22, k1, go_sem], rfl⟩) ?_
        refine .cons (owes_value fun q u lh => ⟨wants_free rfl, .agg #[.int .i64 x0, .int .i64 x1, .int .i64 x2, .int .i64 x3, .int .i64 x4, .int .i64 x5, .int .i64 x6], by have e23 : q.tmps.getD 23 undef = .pointer (some ⟨ba, off + k * 7, none⟩) := lh.dep 3 rfl; obtain ⟨z0, z1, z2, z3, z4, z5, z6⟩ := C.out.below lh.below; simp [execOp, Act.eval, e23, z0, z1, z2, z3, z4, z5, z6, go_sem], rfl⟩) ?_
        refine .cons (owes_call 10 Try.func10 (by kernel_rfl) (by kernel_rfl) [.tmp 20, .tmp 24] #[26, 31] rfl fun q u lh => ⟨wants_free rfl, by have e20 : q.tmps.getD 20 undef = .agg #[.slice aA nA cA, .slice aB nB cB, .slice aM nM cM, .slice aP nP cP] := lh.dep 0 rfl; have e24 : q.tmps.getD 24 undef = .agg #[.int .i64 x0, .int .i64 x1, .int .i64 x2, .int .i64 x3, .int .i64 x4, .int .i64 x5, .int .i64 x6] := lh.dep 4 rfl; show Calls Try.prog 10 #[q.tmps.getD 20 undef, q.tmps.getD 24 undef] u _; rw [e20, e24]; exact bool_fact (M1 u)⟩) ?_
        refine .cons (owes_value fun q u lh => ⟨wants_free rfl, .agg #[.slice aA nA cA, .slice aB nB cB, .slice aM nM cM, .slice aP nP cP], by have e2 : q.tmps.getD 2 undef = .pointer (some ⟨w.heap.size, 0, none⟩) := lh.old 2 rfl; obtain ⟨p0, p1, p2, p3⟩ := X3.out.below lh.below; simp [execOp, Act.eval, e2, p0, p1, p2, p3, go_sem], rfl⟩) ?_
        refine .cons (owes_move (.tmp 1) (.inl rfl) fun q u lh => ⟨wants_free rfl, lh.old 1 rfl⟩) ?_
        refine .cons (owes_move (.tmp 5) (.inl rfl) fun q u lh => ⟨wants_free rfl, lh.old 5 rfl⟩) ?_
        refine .cons (owes_value fun q u lh => ⟨wants_free rfl, .pointer (some ⟨ba, off + k * 7, none⟩), by have e27 : q.tmps.getD 27 undef = .slice (some ⟨ba, off, none⟩) n c := lh.dep 7 rfl; have e28 : q.tmps.getD 28 undef = .int .i64 k := lh.dep 8 rfl; simp [execOp, Act.eval, e27, e28, k1, go_sem], rfl⟩) ?_
        refine .cons (owes_value fun q u lh => ⟨wants_free rfl, .agg #[.int .i64 x0, .int .i64 x1, .int .i64 x2, .int .i64 x3, .int .i64 x4, .int .i64 x5, .int .i64 x6], by have e29 : q.tmps.getD 29 undef = .pointer (some ⟨ba, off + k * 7, none⟩) := lh.dep 9 rfl; obtain ⟨z0, z1, z2, z3, z4, z5, z6⟩ := C.out.below lh.below; simp [execOp, Act.eval, e29, z0, z1, z2, z3, z4, z5, z6, go_sem], rfl⟩) ?_
        refine .cons (owes_call 11 Try.func11 (by kernel_rfl) (by kernel_rfl) [.tmp 26, .tmp 30] #[26, 31] rfl fun q u lh => ⟨wants_free rfl, by have e26 : q.tmps.getD 26 undef = .agg #[.slice aA nA cA, .slice aB nB cB, .slice aM nM cM, .slice aP nP cP] := lh.dep 6 rfl; have e30 : q.tmps.getD 30 undef = .agg #[.int .i64 x0, .int .i64 x1, .int .i64 x2, .int .i64 x3, .int .i64 x4, .int .i64 x5, .int .i64 x6] := lh.dep 10 rfl; show Calls Try.prog 11 #[q.tmps.getD 26 undef, q.tmps.getD 30 undef] u _; rw [e26, e30]; exact bool_fact (M2 u)⟩) ?_
        refine .cons (owes_value fun q u lh => ⟨wants_free rfl, .bool false, by have e25 : q.tmps.getD 25 undef = .bool mq := lh.dep 5 rfl; have e31 : q.tmps.getD 31 undef = .bool mq := lh.dep 11 rfl; simp [execOp, Act.eval, e25, e31, go_sem], rfl⟩) ?_
        exact .nil _
      intro q u hb hsz hdf hold hfact
      have B5 : Hid (Below w2.heap.size w2 u) := HB.out.trans (hb.mono HB.out.size)
      obtain rfl := frame_puts hsz hdf [20, 21, 22, 23, 24, 25, 26, 27, 28, 29, 30, 31, 32] hold [(20, Value.agg #[.slice aA nA cA, .slice aB nB cB, .slice aM nM cM, .slice aP nP cP]), (21, Value.slice (some ⟨ba, off, none⟩) n c), (22, Value.int .i64 k), (23, Value.pointer (some ⟨ba, off + k * 7, none⟩)), (24, Value.agg #[.int .i64 x0, .int .i64 x1, .int .i64 x2, .int .i64 x3, .int .i64 x4, .int .i64 x5, .int .i64 x6]), (25, Value.bool mq), (26, Value.agg #[.slice aA nA cA, .slice aB nB cB, .slice aM nM cM, .slice aP nP cP]), (27, Value.slice (some ⟨ba, off, none⟩) n c), (28, Value.int .i64 k), (29, Value.pointer (some ⟨ba, off + k * 7, none⟩)), (30, Value.agg #[.int .i64 x0, .int .i64 x1, .int .i64 x2, .int .i64 x3, .int .i64 x4, .int .i64 x5, .int .i64 x6]), (31, Value.bool mq), (32, Value.bool false)] ⟨hfact 0 (by decide), hfact 1 (by decide), hfact 2 (by decide), hfact 3 (by decide), hfact 4 (by decide), hfact 5 (by decide), hfact 6 (by decide), hfact 7 (by decide), hfact 8 (by decide), hfact 9 (by decide), hfact 10 (by decide), hfact 11 (by decide), hfact 12 (by decide), trivial⟩ rfl
      clear hsz hdf hold hfact
      clear hb M1 M2 X3 HB BW C
      simp only [puts, Act.put, List.setIfInBounds_toArray, List.set_cons_zero, List.set_cons_succ]
      go_wp2
      go_roundw
      case rel => exact ⟨k + 1, by omega, by go_num, B5⟩
      case measure => simp [intOf]; omega
    · obtain rfl : k = n := by omega
      have F1 : Hid (∀ u, Below wr.heap.size wr u → Calls Try.prog 12 #[.agg #[.slice aA nA cA, .slice aB nB cB, .slice aM nM cM, .slice aP nP cP], .slice a k c] u fun e w' => e = .returned (.bool (fitsB b L)) ∧ Below u.heap.size u w') := fun u hu => CF2.out GB.out u (HB.out.trans (hu.mono HB.out.size))
      have F2 : Hid (∀ u, Below wr.heap.size wr u → Calls Try.prog 13 #[.agg #[.slice aA nA cA, .slice aB nB cB, .slice aM nM cM, .slice aP nP cP], .slice a k c] u fun e w' => e = .returned (.bool (fitsB b L)) ∧ Below u.heap.size u w') := fun u hu => RF2.out GB.out u (HB.out.trans (hu.mono HB.out.size))
      have F3 : Hid (∀ u, Below wr.heap.size wr u → Calls Try.prog 14 #[.agg #[.slice aA nA cA, .slice aB nB cB, .slice aM nM cM, .slice aP nP cP], .slice a k c] u fun e w' => e = .returned (.bool (allB b L)) ∧ Below u.heap.size u w') := fun u hu => RA2.out u (HB.out.trans (hu.mono HB.out.size))
      have F4 : Hid (allB b L = true → ∀ u, Below wr.heap.size wr u → Calls Try.prog 16 #[.agg #[.slice aA nA cA, .slice aB nB cB, .slice aM nM cM, .slice aP nP cP], .slice a k c] u (IEnd u (shortL b L))) := fun hA u hu => CS2.out GB.out hA u (HB.out.trans (hu.mono HB.out.size))
      have F5 : Hid (allB b L = true → ∀ u, Below wr.heap.size wr u → Calls Try.prog 17 #[.agg #[.slice aA nA cA, .slice aB nB cB, .slice aM nM cM, .slice aP nP cP], .slice a k c] u (IEnd u (shortL b L))) := fun hA u hu => RS2.out GB.out hA u (HB.out.trans (hu.mono HB.out.size))
      clear CF2 RF2 RA2 CS2 RS2 HM1 HM2 HQ
      generalize fitsB b L = ft at F1 F2
      generalize allB b L = al at F3 F4 F5
      generalize shortL b L = sh at F4 F5
      cases al with
      | false =>
        obtain ⟨t, ht⟩ : ∃ t, t = true := ⟨_, rfl⟩
        have HT : Hid (t = true) := ht
        clear ht F4 F5
        go_wp2_with fail
        refine region_owes (L := [Fact.is (.agg #[.slice aA nA cA, .slice aB nB cB, .slice aM nM cM, .slice aP nP cP]),
          Fact.is (.slice a k c),
          Fact.is (.bool ft),
          Fact.is (.agg #[.slice aA nA cA, .slice aB nB cB, .slice aM nM cM, .slice aP nP cP]),
          Fact.is (.slice a k c),
          Fact.is (.bool ft),
          Fact.is (.bool true),
          Fact.is (.bool true),
          Fact.is (.agg #[.slice aA nA cA, .slice aB nB cB, .slice aM nM cM, .slice aP nP cP]),
          Fact.is (.slice a k c),
          Fact.is (.bool false),
          Fact.is (.bool t),
          Fact.is (.bool t),
          Fact.when (t == false) (.bool false),
          Fact.when (t == false) (.slice a k c),
          Fact.when (t == false) (.bool false),
          Fact.when (t == false) (.bool false),
          Fact.when (t == false) (.slice a k c),
          Fact.when (t == false) (.bool false),
          Fact.when (t == false) (.bool false),
          Fact.is (.bool true),
          Fact.is (.bool true),
          Fact.is (.bool true),
          Fact.is (.bool true),
          Fact.is (.bool true),
          Fact.is (.bool true)])
          (T := [33, 34, 35, 36, 37, 38, 39, 40, 41, 42, 43, 44, 45, 46, 47, 48, 49, 50, 51, 52, 53, 54, 55, 56, 57, 4]) (by kernel_rfl) (by kernel_rfl) rfl ?owes ?_
        case owes =>
          refine .cons (owes_value fun q u lh => ⟨wants_free rfl, .agg #[.slice aA nA cA, .slice aB nB cB, .slice aM nM cM, .slice aP nP cP], by have e2 : q.tmps.getD 2 undef = .pointer (some ⟨w.heap.size, 0, none⟩) := lh.old 2 rfl; obtain ⟨p0, p1, p2, p3⟩ := X3.out.below lh.below; simp [execOp, Act.eval, e2, p0, p1, p2, p3, go_sem], rfl⟩) ?_
          refine .cons (owes_move (.tmp 1) (.inl rfl) fun q u lh => ⟨wants_free rfl, lh.old 1 rfl⟩) ?_
          refine .cons (owes_call 12 Try.func12 (by kernel_rfl) (by kernel_rfl) [.tmp 33, .tmp 34] #[26, 27] rfl fun q u lh => ⟨wants_free rfl, by have e33 : q.tmps.getD 33 undef = .agg #[.slice aA nA cA, .slice aB nB cB, .slice aM nM cM, .slice aP nP cP] := lh.dep 0 rfl; have e34 : q.tmps.getD 34 undef = .slice a k c := lh.dep 1 rfl; show Calls Try.prog 12 #[q.tmps.getD 33 undef, q.tmps.getD 34 undef] u _; rw [e33, e34]; exact bool_fact (F1.out u lh.below)⟩) ?_
          refine .cons (owes_value fun q u lh => ⟨wants_free rfl, .agg #[.slice aA nA cA, .slice aB nB cB, .slice aM nM cM, .slice aP nP cP], by have e2 : q.tmps.getD 2 undef = .pointer (some ⟨w.heap.size, 0, none⟩) := lh.old 2 rfl; obtain ⟨p0, p1, p2, p3⟩ := X3.out.below lh.below; simp [execOp, Act.eval, e2, p0, p1, p2, p3, go_sem], rfl⟩) ?_
          refine .cons (owes_move (.tmp 1) (.inl rfl) fun q u lh => ⟨wants_free rfl, lh.old 1 rfl⟩) ?_
          refine .cons (owes_call 13 Try.func13 (by kernel_rfl) (by kernel_rfl) [.tmp 36, .tmp 37] #[26, 27] rfl fun q u lh => ⟨wants_free rfl, by have e36 : q.tmps.getD 36 undef = .agg #[.slice aA nA cA, .slice aB nB cB, .slice aM nM cM, .slice aP nP cP] := lh.dep 3 rfl; have e37 : q.tmps.getD 37 undef = .slice a k c := lh.dep 4 rfl; show Calls Try.prog 13 #[q.tmps.getD 36 undef, q.tmps.getD 37 undef] u _; rw [e36, e37]; exact bool_fact (F2.out u lh.below)⟩) ?_
          refine .cons (owes_eql 4 4 (.tmp 35) (.tmp 38) rfl rfl fun q u lh => ⟨wants_free rfl, .bool ft, lh.dep 2 rfl, lh.dep 5 rfl, eq_bool⟩) ?_
          refine .cons (owes_move (.tmp 39) (.inl rfl) fun q u lh => ⟨wants_free rfl, lh.dep 6 rfl⟩) ?_
          refine .cons (owes_value fun q u lh => ⟨lh.wants1 7 true rfl rfl rfl, .agg #[.slice aA nA cA, .slice aB nB cB, .slice aM nM cM, .slice aP nP cP], by have e2 : q.tmps.getD 2 undef = .pointer (some ⟨w.heap.size, 0, none⟩) := lh.old 2 rfl; obtain ⟨p0, p1, p2, p3⟩ := X3.out.below lh.below; simp [execOp, Act.eval, e2, p0, p1, p2, p3, go_sem], rfl⟩) ?_
          refine .cons (owes_move (.tmp 1) (.inl rfl) fun q u lh => ⟨lh.wants1 7 true rfl rfl rfl, lh.old 1 rfl⟩) ?_
          refine .cons (owes_call 14 Try.func14 (by kernel_rfl) (by kernel_rfl) [.tmp 41, .tmp 42] #[26, 27] rfl fun q u lh => ⟨lh.wants1 7 true rfl rfl rfl, by have e41 : q.tmps.getD 41 undef = .agg #[.slice aA nA cA, .slice aB nB cB, .slice aM nM cM, .slice aP nP cP] := lh.dep 8 rfl; have e42 : q.tmps.getD 42 undef = .slice a k c := lh.dep 9 rfl; show Calls Try.prog 14 #[q.tmps.getD 41 undef, q.tmps.getD 42 undef] u _; rw [e41, e42]; exact bool_fact (F3.out u lh.below)⟩) ?_
          refine .cons (owes_value fun q u lh => ⟨lh.wants1 7 true rfl rfl rfl, .bool t, by have e43 : q.tmps.getD 43 undef = .bool false := lh.dep 10 rfl; simp [execOp, Act.eval, e43, HT.out, go_sem], rfl⟩) ?_
          refine .cons (owes_move (.tmp 44) (.inl rfl) fun q u lh => ⟨lh.wants1 7 true rfl rfl rfl, lh.dep 11 rfl⟩) ?_
          refine .cons (owes_when 12 false t (.bool false) rfl rfl rfl rfl fun hg q u lh => by have e2 : q.tmps.getD 2 undef = .pointer (some ⟨w.heap.size, 0, none⟩) := lh.old 2 rfl; refine absurd hg ?_; rw [HT.out]; simp [execOp, Act.eval, e2, go_sem]) ?_
          refine .cons (owes_when 12 false t (.slice a k c) rfl rfl rfl rfl fun hg q u lh => by have e1 : q.tmps.getD 1 undef = .slice a k c := lh.old 1 rfl; simp [execOp, Act.eval, e1, go_sem]) ?_
          refine .cons (owes_when_call 12 false t (.bool false) rfl rfl rfl rfl 16 Try.func16 (by kernel_rfl) (by kernel_rfl) [.tmp 46, .tmp 47] #[26, 27] rfl fun hg q u lh => by have e46 : q.tmps.getD 46 undef = .bool false := (lh.dep 13 rfl) hg; have e47 : q.tmps.getD 47 undef = .slice a k c := (lh.dep 14 rfl) hg; show Calls Try.prog 16 #[q.tmps.getD 46 undef, q.tmps.getD 47 undef] u _; rw [e46, e47]; exact absurd hg (by rw [HT.out]; decide)) ?_
          refine .cons (owes_when 12 false t (.bool false) rfl rfl rfl rfl fun hg q u lh => by have e2 : q.tmps.getD 2 undef = .pointer (some ⟨w.heap.size, 0, none⟩) := lh.old 2 rfl; refine absurd hg ?_; rw [HT.out]; simp [execOp, Act.eval, e2, go_sem]) ?_
          refine .cons (owes_when 12 false t (.slice a k c) rfl rfl rfl rfl fun hg q u lh => by have e1 : q.tmps.getD 1 undef = .slice a k c := lh.old 1 rfl; simp [execOp, Act.eval, e1, go_sem]) ?_
          refine .cons (owes_when_call 12 false t (.bool false) rfl rfl rfl rfl 17 Try.func17 (by kernel_rfl) (by kernel_rfl) [.tmp 49, .tmp 50] #[26, 27] rfl fun hg q u lh => by have e49 : q.tmps.getD 49 undef = .bool false := (lh.dep 16 rfl) hg; have e50 : q.tmps.getD 50 undef = .slice a k c := (lh.dep 17 rfl) hg; show Calls Try.prog 17 #[q.tmps.getD 49 undef, q.tmps.getD 50 undef] u _; rw [e49, e50]; exact absurd hg (by rw [HT.out]; decide)) ?_
          refine .cons (owes_when_call 12 false t (.bool false) rfl rfl rfl rfl 15 Try.func15 (by kernel_rfl) (by kernel_rfl) [.tmp 48, .tmp 51] #[35, 35] rfl fun hg q u lh => by have e48 : q.tmps.getD 48 undef = .bool false := (lh.dep 15 rfl) hg; have e51 : q.tmps.getD 51 undef = .bool false := (lh.dep 18 rfl) hg; show Calls Try.prog 15 #[q.tmps.getD 48 undef, q.tmps.getD 51 undef] u _; rw [e48, e51]; exact absurd hg (by rw [HT.out]; decide)) ?_
          refine .cons (owes_pick (.tmp 45) (.const (.bool true)) (.tmp 52) rfl fun q u lh => ⟨lh.wants1 7 true rfl rfl rfl, t, lh.dep 12 rfl, by rw [if_pos (by rw [HT.out])]; rfl⟩) ?_
          refine .cons (owes_pick (.tmp 40) (.tmp 53) (.const (.bool false)) rfl fun q u lh => ⟨wants_free rfl, true, lh.dep 7 rfl, lh.dep 20 rfl⟩) ?_
          refine .cons (owes_move (.tmp 54) (.inl rfl) fun q u lh => ⟨wants_free rfl, lh.dep 21 rfl⟩) ?_
          refine .cons (owes_call 18 Try.func18 (by kernel_rfl) (by kernel_rfl) [] #[] rfl fun q u lh => ⟨lh.wants1 22 true rfl rfl rfl, by show Calls Try.prog 18 #[] u _; exact bool_fact (K u)⟩) ?_
          refine .cons (owes_pick (.tmp 55) (.tmp 56) (.const (.bool false)) rfl fun q u lh => ⟨wants_free rfl, true, lh.dep 22 rfl, lh.dep 23 rfl⟩) ?_
          refine .cons (owes_move (.tmp 57) (.inr rfl) fun q u lh => ⟨wants_free rfl, lh.dep 24 rfl⟩) ?_
          exact .nil _
        intro q u hb hsz hdf hold hfact
        obtain ⟨v46, e46⟩ : ∃ v, q.tmps.getD 46 undef = v := ⟨_, rfl⟩
        obtain ⟨v47, e47⟩ : ∃ v, q.tmps.getD 47 undef = v := ⟨_, rfl⟩
        obtain ⟨v48, e48⟩ : ∃ v, q.tmps.getD 48 undef = v := ⟨_, rfl⟩
        obtain ⟨v49, e49⟩ : ∃ v, q.tmps.getD 49 undef = v := ⟨_, rfl⟩
        obtain ⟨v50, e50⟩ : ∃ v, q.tmps.getD 50 undef = v := ⟨_, rfl⟩
        obtain ⟨v51, e51⟩ : ∃ v, q.tmps.getD 51 undef = v := ⟨_, rfl⟩
        obtain ⟨v52, e52⟩ : ∃ v, q.tmps.getD 52 undef = v := ⟨_, rfl⟩
        have B9 : Hid (Below w.heap.size w u) := BW.out.trans (hb.mono BW.out.size)
        obtain rfl := frame_puts hsz hdf [33, 34, 35, 36, 37, 38, 39, 40, 41, 42, 43, 44, 45, 46, 47, 48, 49, 50, 51, 52, 53, 54, 55, 56, 57, 4] hold [(33, Value.agg #[.slice aA nA cA, .slice aB nB cB, .slice aM nM cM, .slice aP nP cP]), (34, Value.slice a k c), (35, Value.bool ft), (36, Value.agg #[.slice aA nA cA, .slice aB nB cB, .slice aM nM cM, .slice aP nP cP]), (37, Value.slice a k c), (38, Value.bool ft), (39, Value.bool true), (40, Value.bool true), (41, Value.agg #[.slice aA nA cA, .slice aB nB cB, .slice aM nM cM, .slice aP nP cP]), (42, Value.slice a k c), (43, Value.bool false), (44, Value.bool t), (45, Value.bool t), (46, v46), (47, v47), (48, v48), (49, v49), (50, v50), (51, v51), (52, v52), (53, Value.bool true), (54, Value.bool true), (55, Value.bool true), (56, Value.bool true), (57, Value.bool true), (4, Value.bool true)] ⟨hfact 0 (by decide), hfact 1 (by decide), hfact 2 (by decide), hfact 3 (by decide), hfact 4 (by decide), hfact 5 (by decide), hfact 6 (by decide), hfact 7 (by decide), hfact 8 (by decide), hfact 9 (by decide), hfact 10 (by decide), hfact 11 (by decide), hfact 12 (by decide), e46, e47, e48, e49, e50, e51, e52, hfact 20 (by decide), hfact 21 (by decide), hfact 22 (by decide), hfact 23 (by decide), hfact 24 (by decide), hfact 25 (by decide), trivial⟩ rfl
        clear hsz hdf hold hfact
        clear hb
        simp only [puts, Act.put, List.setIfInBounds_toArray, List.set_cons_zero, List.set_cons_succ]
        go_wp2
        go_ret
        exact ⟨rfl, B9.out⟩
      | true =>
        have G4 : Hid (∀ u, Below wr.heap.size wr u → Calls Try.prog 16 #[.agg #[.slice aA nA cA, .slice aB nB cB, .slice aM nM cM, .slice aP nP cP], .slice a k c] u (IEnd u sh)) := F4.out rfl
        have G5 : Hid (∀ u, Below wr.heap.size wr u → Calls Try.prog 17 #[.agg #[.slice aA nA cA, .slice aB nB cB, .slice aM nM cM, .slice aP nP cP], .slice a k c] u (IEnd u sh)) := F5.out rfl
        clear F4 F5
        go_wp2_with fail
        refine region_owes (L := [Fact.is (.agg #[.slice aA nA cA, .slice aB nB cB, .slice aM nM cM, .slice aP nP cP]),
          Fact.is (.slice a k c),
          Fact.is (.bool ft),
          Fact.is (.agg #[.slice aA nA cA, .slice aB nB cB, .slice aM nM cM, .slice aP nP cP]),
          Fact.is (.slice a k c),
          Fact.is (.bool ft),
          Fact.is (.bool true),
          Fact.is (.bool true),
          Fact.is (.agg #[.slice aA nA cA, .slice aB nB cB, .slice aM nM cM, .slice aP nP cP]),
          Fact.is (.slice a k c),
          Fact.is (.bool true),
          Fact.is (.bool false),
          Fact.is (.bool false),
          Fact.is (.agg #[.slice aA nA cA, .slice aB nB cB, .slice aM nM cM, .slice aP nP cP]),
          Fact.is (.slice a k c),
          Fact.ints sh,
          Fact.is (.agg #[.slice aA nA cA, .slice aB nB cB, .slice aM nM cM, .slice aP nP cP]),
          Fact.is (.slice a k c),
          Fact.ints sh,
          Fact.is (.bool true),
          Fact.is (.bool true),
          Fact.is (.bool true),
          Fact.is (.bool true),
          Fact.is (.bool true),
          Fact.is (.bool true),
          Fact.is (.bool true)])
          (T := [33, 34, 35, 36, 37, 38, 39, 40, 41, 42, 43, 44, 45, 46, 47, 48, 49, 50, 51, 52, 53, 54, 55, 56, 57, 4]) (by kernel_rfl) (by kernel_rfl) rfl ?owes ?_
        case owes =>
          refine .cons (owes_value fun q u lh => ⟨wants_free rfl, .agg #[.slice aA nA cA, .slice aB nB cB, .slice aM nM cM, .slice aP nP cP], by have e2 : q.tmps.getD 2 undef = .pointer (some ⟨w.heap.size, 0, none⟩) := lh.old 2 rfl; obtain ⟨p0, p1, p2, p3⟩ := X3.out.below lh.below; simp [execOp, Act.eval, e2, p0, p1, p2, p3, go_sem], rfl⟩) ?_
          refine .cons (owes_move (.tmp 1) (.inl rfl) fun q u lh => ⟨wants_free rfl, lh.old 1 rfl⟩) ?_
          refine .cons (owes_call 12 Try.func12 (by kernel_rfl) (by kernel_rfl) [.tmp 33, .tmp 34] #[26, 27] rfl fun q u lh => ⟨wants_free rfl, by have e33 : q.tmps.getD 33 undef = .agg #[.slice aA nA cA, .slice aB nB cB, .slice aM nM cM, .slice aP nP cP] := lh.dep 0 rfl; have e34 : q.tmps.getD 34 undef = .slice a k c := lh.dep 1 rfl; show Calls Try.prog 12 #[q.tmps.getD 33 undef, q.tmps.getD 34 undef] u _; rw [e33, e34]; exact bool_fact (F1.out u lh.below)⟩) ?_
          refine .cons (owes_value fun q u lh => ⟨wants_free rfl, .agg #[.slice aA nA cA, .slice aB nB cB, .slice aM nM cM, .slice aP nP cP], by have e2 : q.tmps.getD 2 undef = .pointer (some ⟨w.heap.size, 0, none⟩) := lh.old 2 rfl; obtain ⟨p0, p1, p2, p3⟩ := X3.out.below lh.below; simp [execOp, Act.eval, e2, p0, p1, p2, p3, go_sem], rfl⟩) ?_
          refine .cons (owes_move (.tmp 1) (.inl rfl) fun q u lh => ⟨wants_free rfl, lh.old 1 rfl⟩) ?_
          refine .cons (owes_call 13 Try.func13 (by kernel_rfl) (by kernel_rfl) [.tmp 36, .tmp 37] #[26, 27] rfl fun q u lh => ⟨wants_free rfl, by have e36 : q.tmps.getD 36 undef = .agg #[.slice aA nA cA, .slice aB nB cB, .slice aM nM cM, .slice aP nP cP] := lh.dep 3 rfl; have e37 : q.tmps.getD 37 undef = .slice a k c := lh.dep 4 rfl; show Calls Try.prog 13 #[q.tmps.getD 36 undef, q.tmps.getD 37 undef] u _; rw [e36, e37]; exact bool_fact (F2.out u lh.below)⟩) ?_
          refine .cons (owes_eql 4 4 (.tmp 35) (.tmp 38) rfl rfl fun q u lh => ⟨wants_free rfl, .bool ft, lh.dep 2 rfl, lh.dep 5 rfl, eq_bool⟩) ?_
          refine .cons (owes_move (.tmp 39) (.inl rfl) fun q u lh => ⟨wants_free rfl, lh.dep 6 rfl⟩) ?_
          refine .cons (owes_value fun q u lh => ⟨lh.wants1 7 true rfl rfl rfl, .agg #[.slice aA nA cA, .slice aB nB cB, .slice aM nM cM, .slice aP nP cP], by have e2 : q.tmps.getD 2 undef = .pointer (some ⟨w.heap.size, 0, none⟩) := lh.old 2 rfl; obtain ⟨p0, p1, p2, p3⟩ := X3.out.below lh.below; simp [execOp, Act.eval, e2, p0, p1, p2, p3, go_sem], rfl⟩) ?_
          refine .cons (owes_move (.tmp 1) (.inl rfl) fun q u lh => ⟨lh.wants1 7 true rfl rfl rfl, lh.old 1 rfl⟩) ?_
          refine .cons (owes_call 14 Try.func14 (by kernel_rfl) (by kernel_rfl) [.tmp 41, .tmp 42] #[26, 27] rfl fun q u lh => ⟨lh.wants1 7 true rfl rfl rfl, by have e41 : q.tmps.getD 41 undef = .agg #[.slice aA nA cA, .slice aB nB cB, .slice aM nM cM, .slice aP nP cP] := lh.dep 8 rfl; have e42 : q.tmps.getD 42 undef = .slice a k c := lh.dep 9 rfl; show Calls Try.prog 14 #[q.tmps.getD 41 undef, q.tmps.getD 42 undef] u _; rw [e41, e42]; exact bool_fact (F3.out u lh.below)⟩) ?_
          refine .cons (owes_value fun q u lh => ⟨lh.wants1 7 true rfl rfl rfl, .bool false, by have e43 : q.tmps.getD 43 undef = .bool true := lh.dep 10 rfl; simp [execOp, Act.eval, e43, go_sem], rfl⟩) ?_
          refine .cons (owes_move (.tmp 44) (.inl rfl) fun q u lh => ⟨lh.wants1 7 true rfl rfl rfl, lh.dep 11 rfl⟩) ?_
          refine .cons (owes_value fun q u lh => ⟨lh.wants1 12 false rfl rfl rfl, .agg #[.slice aA nA cA, .slice aB nB cB, .slice aM nM cM, .slice aP nP cP], by have e2 : q.tmps.getD 2 undef = .pointer (some ⟨w.heap.size, 0, none⟩) := lh.old 2 rfl; obtain ⟨p0, p1, p2, p3⟩ := X3.out.below lh.below; simp [execOp, Act.eval, e2, p0, p1, p2, p3, go_sem], rfl⟩) ?_
          refine .cons (owes_move (.tmp 1) (.inl rfl) fun q u lh => ⟨lh.wants1 12 false rfl rfl rfl, lh.old 1 rfl⟩) ?_
          refine .cons (owes_call 16 Try.func16 (by kernel_rfl) (by kernel_rfl) [.tmp 46, .tmp 47] #[26, 27] rfl fun q u lh => ⟨lh.wants1 12 false rfl rfl rfl, by have e46 : q.tmps.getD 46 undef = .agg #[.slice aA nA cA, .slice aB nB cB, .slice aM nM cM, .slice aP nP cP] := lh.dep 13 rfl; have e47 : q.tmps.getD 47 undef = .slice a k c := lh.dep 14 rfl; show Calls Try.prog 16 #[q.tmps.getD 46 undef, q.tmps.getD 47 undef] u _; rw [e46, e47]; exact ints_fact (G4.out u lh.below)⟩) ?_
          refine .cons (owes_value fun q u lh => ⟨lh.wants1 12 false rfl rfl rfl, .agg #[.slice aA nA cA, .slice aB nB cB, .slice aM nM cM, .slice aP nP cP], by have e2 : q.tmps.getD 2 undef = .pointer (some ⟨w.heap.size, 0, none⟩) := lh.old 2 rfl; obtain ⟨p0, p1, p2, p3⟩ := X3.out.below lh.below; simp [execOp, Act.eval, e2, p0, p1, p2, p3, go_sem], rfl⟩) ?_
          refine .cons (owes_move (.tmp 1) (.inl rfl) fun q u lh => ⟨lh.wants1 12 false rfl rfl rfl, lh.old 1 rfl⟩) ?_
          refine .cons (owes_call 17 Try.func17 (by kernel_rfl) (by kernel_rfl) [.tmp 49, .tmp 50] #[26, 27] rfl fun q u lh => ⟨lh.wants1 12 false rfl rfl rfl, by have e49 : q.tmps.getD 49 undef = .agg #[.slice aA nA cA, .slice aB nB cB, .slice aM nM cM, .slice aP nP cP] := lh.dep 16 rfl; have e50 : q.tmps.getD 50 undef = .slice a k c := lh.dep 17 rfl; show Calls Try.prog 17 #[q.tmps.getD 49 undef, q.tmps.getD 50 undef] u _; rw [e49, e50]; exact ints_fact (G5.out u lh.below)⟩) ?_
          refine .cons (owes_call 15 Try.func15 (by kernel_rfl) (by kernel_rfl) [.tmp 48, .tmp 51] #[35, 35] rfl fun q u lh => ⟨lh.wants1 12 false rfl rfl rfl, by obtain ⟨aa, ca, ea, ga⟩ := lh.dep 15 rfl; obtain ⟨ab, cb, eb, gb⟩ := lh.dep 18 rfl; have ea : q.tmps.getD 48 undef = .slice aa sh.length ca := ea; have eb : q.tmps.getD 51 undef = .slice ab sh.length cb := eb; show Calls Try.prog 15 #[q.tmps.getD 48 undef, q.tmps.getD 51 undef] u _; rw [ea, eb]; exact ints_self ga gb⟩) ?_
          refine .cons (owes_pick (.tmp 45) (.const (.bool true)) (.tmp 52) rfl fun q u lh => ⟨lh.wants1 7 true rfl rfl rfl, false, lh.dep 12 rfl, lh.dep 19 rfl⟩) ?_
          refine .cons (owes_pick (.tmp 40) (.tmp 53) (.const (.bool false)) rfl fun q u lh => ⟨wants_free rfl, true, lh.dep 7 rfl, lh.dep 20 rfl⟩) ?_
          refine .cons (owes_move (.tmp 54) (.inl rfl) fun q u lh => ⟨wants_free rfl, lh.dep 21 rfl⟩) ?_
          refine .cons (owes_call 18 Try.func18 (by kernel_rfl) (by kernel_rfl) [] #[] rfl fun q u lh => ⟨lh.wants1 22 true rfl rfl rfl, by show Calls Try.prog 18 #[] u _; exact bool_fact (K u)⟩) ?_
          refine .cons (owes_pick (.tmp 55) (.tmp 56) (.const (.bool false)) rfl fun q u lh => ⟨wants_free rfl, true, lh.dep 22 rfl, lh.dep 23 rfl⟩) ?_
          refine .cons (owes_move (.tmp 57) (.inr rfl) fun q u lh => ⟨wants_free rfl, lh.dep 24 rfl⟩) ?_
          exact .nil _
        intro q u hb hsz hdf hold hfact
        obtain ⟨v48, e48⟩ : ∃ v, q.tmps.getD 48 undef = v := ⟨_, rfl⟩
        have f48 : (Fact.ints sh).1 u v48 := by rw [← e48]; exact hfact 15 (by decide)
        obtain ⟨v51, e51⟩ : ∃ v, q.tmps.getD 51 undef = v := ⟨_, rfl⟩
        have f51 : (Fact.ints sh).1 u v51 := by rw [← e51]; exact hfact 18 (by decide)
        have B9 : Hid (Below w.heap.size w u) := BW.out.trans (hb.mono BW.out.size)
        obtain rfl := frame_puts hsz hdf [33, 34, 35, 36, 37, 38, 39, 40, 41, 42, 43, 44, 45, 46, 47, 48, 49, 50, 51, 52, 53, 54, 55, 56, 57, 4] hold [(33, Value.agg #[.slice aA nA cA, .slice aB nB cB, .slice aM nM cM, .slice aP nP cP]), (34, Value.slice a k c), (35, Value.bool ft), (36, Value.agg #[.slice aA nA cA, .slice aB nB cB, .slice aM nM cM, .slice aP nP cP]), (37, Value.slice a k c), (38, Value.bool ft), (39, Value.bool true), (40, Value.bool true), (41, Value.agg #[.slice aA nA cA, .slice aB nB cB, .slice aM nM cM, .slice aP nP cP]), (42, Value.slice a k c), (43, Value.bool true), (44, Value.bool false), (45, Value.bool false), (46, Value.agg #[.slice aA nA cA, .slice aB nB cB, .slice aM nM cM, .slice aP nP cP]), (47, Value.slice a k c), (48, v48), (49, Value.agg #[.slice aA nA cA, .slice aB nB cB, .slice aM nM cM, .slice aP nP cP]), (50, Value.slice a k c), (51, v51), (52, Value.bool true), (53, Value.bool true), (54, Value.bool true), (55, Value.bool true), (56, Value.bool true), (57, Value.bool true), (4, Value.bool true)] ⟨hfact 0 (by decide), hfact 1 (by decide), hfact 2 (by decide), hfact 3 (by decide), hfact 4 (by decide), hfact 5 (by decide), hfact 6 (by decide), hfact 7 (by decide), hfact 8 (by decide), hfact 9 (by decide), hfact 10 (by decide), hfact 11 (by decide), hfact 12 (by decide), hfact 13 (by decide), hfact 14 (by decide), e48, hfact 16 (by decide), hfact 17 (by decide), e51, hfact 19 (by decide), hfact 20 (by decide), hfact 21 (by decide), hfact 22 (by decide), hfact 23 (by decide), hfact 24 (by decide), hfact 25 (by decide), trivial⟩ rfl
        clear hsz hdf hold hfact
        clear hb
        simp only [puts, Act.put, List.setIfInBounds_toArray, List.set_cons_zero, List.set_cons_succ]
        go_wp2
        go_ret
        exact ⟨rfl, B9.out⟩

end Go.Proofs.Ytdikimddkhahdaa
