/-
  lim: rows and squares of a number: the program's answers and the document's.
-/
import Derived.Test.YtpaieecbedgeaaaRows64
namespace Go.Proofs.Ytpaieecbedgeaaa
open Go.RowKit
set_option linter.unusedVariables false
set_option linter.unusedSimpArgs false

/-- So many there may be. -/
def partB (n : Int) : Bool := decide (0 ≤ n ∧ n ≤ 6)
theorem partB_low {n : Int} (h : n < 0) : false = partB n := by unfold partB; symm; rw [decide_eq_false_iff_not]; omega
theorem partB_rest {n : Int} (h : 0 ≤ n) : decide (n ≤ 6) = partB n := by simp [partB, h]

theorem mayHave_any (n : Int) (w : World) : Calls Try.prog 31 #[.int .i64 n] w fun e w' => e = .returned (.bool (partB n)) ∧ w' = w := by
  rcases Int.lt_or_le n 0 with h | h
  · go_enter Try.func31, Try.ntmps31
    go_wp2
    go_ret
    exact ⟨rt_bool (partB_low h), rfl⟩
  · go_enter Try.func31, Try.ntmps31
    go_wp2
    go_ret
    exact ⟨rt_bool (partB_rest h), rfl⟩

/-- n times v. -/
def rowL (n v : Int) : List Int := if partB n = true then List.replicate n.toNat v else []
/-- n rows of it. -/
def squareL (n v : Int) : List (List Int) := if partB n = true then List.replicate n.toNat (List.replicate n.toNat v) else []
theorem rowL_no {n v : Int} (h : partB n = false) : rowL n v = [] := by simp [rowL, h]
theorem rowL_yes {m : Nat} {v : Int} (h : m ≤ 6) : rowL m v = List.replicate m v := by
  have : partB m = true := by simp [partB]; omega
  simp [rowL, this]
theorem squareL_no {n v : Int} (h : partB n = false) : squareL n v = [] := by simp [squareL, h]
theorem squareL_yes {m : Nat} {v : Int} (h : m ≤ 6) : squareL m v = List.replicate m (List.replicate m v) := by
  have : partB m = true := by simp [partB]; omega
  simp [squareL, this]
theorem w64_rep {m : Nat} {v : Int} (h : IntKind.i64.wrap v = v) : W64 (List.replicate m v) := fun x hx => by rw [(List.mem_replicate.1 hx).2]; exact h

theorem make64 (w : World) (n : Nat) (h : n ≤ 1000000) :
    ∃ w', (Instr.makeSlice 24 (.int .i64 n) (.int .i64 n)).run Try.prog w = .ok (.slice (some ⟨w.heap.size, 0, none⟩) n n) w' ∧ Blk w' w.heap.size (List.replicate n 0) ∧ Below w.heap.size w w' := by
  obtain ⟨i, hi, hz0, hz1, hz2⟩ := info_parts infoI64
  have hr := run_make (P := Try.prog) w 24 2 i (.int .i64 0) Try.underlying24 hi hz0 .i64 .i64 n n (by omega) (Int.le_refl _) (by rw [hz2]; omega) (by omega)
  simp only [Int.toNat_natCast, hz1, Nat.mul_one] at hr
  refine ⟨_, hr, ?_, (Below.refl _ _).alloc (Nat.le_refl _) _⟩
  have e : madeCells (Value.int .i64 0).cells n = ((List.replicate n 0).map (Value.int .i64)).toArray := by
    apply Array.toList_inj.1
    show (madeCells #[Value.int .i64 0] n).toList = _
    rw [toList_madeCells_one]
    simp
  unfold Blk
  rw [e]
  exact heap_alloc_new w _

theorem makeRows64 (w : World) (n : Nat) (h : n ≤ 1000000) :
    ∃ w', (Instr.makeSlice 23 (.int .i64 n) (.int .i64 n)).run Try.prog w = .ok (.slice (some ⟨w.heap.size, 0, none⟩) n n) w' ∧ w'.heap[w.heap.size]? = some (.cells (List.replicate n (Value.slice none 0 0)).toArray 24 (0, 0)) ∧ Below w.heap.size w w' := by
  obtain ⟨i, hi, hz0, hz1, hz2⟩ := info_parts infoRow64
  have hr := run_make (P := Try.prog) w 23 24 i (.slice none 0 0) Try.underlying23 hi hz0 .i64 .i64 n n (by omega) (Int.le_refl _) (by rw [hz2]; omega) (by omega)
  simp only [Int.toNat_natCast, hz1, Nat.mul_one] at hr
  refine ⟨_, hr, ?_, (Below.refl _ _).alloc (Nat.le_refl _) _⟩
  have e : madeCells (Value.slice none 0 0).cells n = (List.replicate n (Value.slice none 0 0)).toArray := by
    apply Array.toList_inj.1
    show (madeCells #[Value.slice none 0 0] n).toList = _
    rw [toList_madeCells_one]
  rw [e]
  exact heap_alloc_new w _

/-- What a row leaves: a new list. -/
def RowEnd (w : World) (zs : List Int) (e : Ending) (w' : World) : Prop :=
  ∃ v, e = .returned v ∧ w'.ownsRow w.heap.size 2 1 v zs.length (zs.map (Value.int .i64)) ∧ W64 zs ∧ Below w.heap.size w w'
def RowsEnd (w : World) (R : List (List Int)) (e : Ending) (w' : World) : Prop :=
  ∃ v vs, e = .returned v ∧ MadeI w' w.heap.size v vs R ∧ Below w.heap.size w w'

theorem blk_own {w : World} {B b : Nat} {zs : List Int} (h : Blk w b zs) (hB : B ≤ b) (hm : zs.length ≤ maxLen) : w.ownsRow B 2 1 (.slice (some ⟨b, 0, none⟩) zs.length zs.length) zs.length (zs.map (Value.int .i64)) :=
  ⟨by simp, .inr ⟨b, zs.length, _, rfl, hB, h, Nat.le_refl _, hm, by simp, by rw [Nat.mul_one]; exact List.take_of_length_le (by simp)⟩⟩

/-- The first k are v, the others 0. -/
def fillL (m k : Nat) (v : Int) : List Int := List.replicate k v ++ List.replicate (m - k) 0
theorem fillL_set {m k : Nat} {v : Int} (h : k < m) : (fillL m k v).set k v = fillL m (k + 1) v := by
  unfold fillL
  have e : m - k = (m - (k + 1)) + 1 := by omega
  have hk : (List.replicate k v).length ≤ k := by simp
  rw [e, List.replicate_succ, List.set_append_right _ _ hk]
  simp [List.replicate_succ', List.append_assoc]
theorem fillL_len {m k : Nat} {v : Int} (h : k ≤ m) : (fillL m k v).length = m := by unfold fillL; simp; omega
theorem fillL_zero {m : Nat} {v : Int} : fillL m 0 v = List.replicate m 0 := by simp [fillL]
theorem fillL_all {m : Nat} {v : Int} : fillL m m v = List.replicate m v := by simp [fillL]

theorem row_end {w w' : World} {m : Nat} {v : Int} (hm : m ≤ 6) (hv : IntKind.i64.wrap v = v) (hk : Blk w' w.heap.size (fillL m m v)) (hb : Below w.heap.size w w') :
    RowEnd w (List.replicate m v) (.returned (.slice (some ⟨w.heap.size, 0, none⟩) m m)) w' := by
  rw [fillL_all] at hk
  have := blk_own hk (Nat.le_refl _) (by simp [maxLen]; omega)
  simp only [List.length_replicate] at this
  exact ⟨_, rfl, by simpa using this, w64_rep hv, hb⟩

set_option maxHeartbeats 2000000 in
theorem limRow_any (n v : Int) (hv : IntKind.i64.wrap v = v) (w : World) : Calls Try.prog 18 #[.int .i64 n, .int .i64 v] w (RowEnd w (rowL n v)) := by
  have M := mayHave_any n
  cases hp : partB n with
  | false =>
    rw [hp] at M
    rw [rowL_no hp]
    clear hp
    go_enter Try.func18, Try.ntmps18
    go_wp2_with fail
    go_at_call 31
    refine (M _).mono ?_
    rintro e w1 ⟨rfl, hw⟩
    obtain rfl := hw.symm
    go_wp2
    go_ret
    exact ⟨_, rfl, World.ownsRow_nil _ _ _ _, W64.nil, Below.refl _ _⟩
  | true =>
    obtain ⟨m, rfl, hm⟩ : ∃ m : Nat, n = m ∧ m ≤ 6 := ⟨n.toNat, by simp [partB] at hp; omega, by simp [partB] at hp; omega⟩
    rw [hp] at M
    rw [rowL_yes hm]
    clear hp
    have HV : Hid (IntKind.i64.wrap v = v) := hv
    clear hv
    obtain ⟨w2, hmk, K0, B0⟩ := make64 w m (by omega)
    have HK0 : Hid (Blk w2 w.heap.size (fillL m 0 v)) := by rw [fillL_zero]; exact K0
    have HB0 : Hid (Below w.heap.size w w2) := B0
    clear K0 B0
    go_enter Try.func18, Try.ntmps18
    go_wp2_with fail
    go_at_call 31
    refine (M _).mono ?_
    rintro e w1 ⟨rfl, hw⟩
    obtain rfl := hw.symm
    clear M
    go_wp2
    go_loopw [14] (fun i wr => ∃ k : Nat, k ≤ m ∧ i = .int .i64 k ∧ Below w.heap.size w wr ∧ Blk wr w.heap.size (fillL m k v)) (fun i _ => m - (intOf i).toNat)
    case atStart => exact ⟨0, Nat.zero_le _, rfl, HB0.out, HK0.out⟩
    case round =>
      obtain ⟨k, hk, rfl, bel, blk⟩ := hrel
      have HB : Hid (Below w.heap.size w wr) := bel
      have HK : Hid (Blk wr w.heap.size (fillL m k v)) := blk
      clear bel blk
      by_cases hlt : k < m
      · have c0 := HK.out.cell (i := k) (by rw [fillL_len hk]; exact hlt)
        have f0 := HK.out.free k
        go_wp2
        go_roundw
        case rel =>
          refine ⟨k + 1, by omega, by go_num, HB.out.setCell (p := ⟨w.heap.size, k, none⟩) (Nat.le_refl _) _, ?_⟩
          rw [← fillL_set hlt]
          exact HK.out.set k v
        case measure => simp [intOf]; omega
      · obtain rfl : k = m := by omega
        go_wp2
        go_ret
        exact row_end hm HV.out HK.out HB.out

set_option maxHeartbeats 2000000 in
theorem refRow_any (n v : Int) (hv : IntKind.i64.wrap v = v) (w : World) : Calls Try.prog 32 #[.int .i64 n, .int .i64 v] w (RowEnd w (rowL n v)) := by
  rcases Int.lt_or_le n 0 with h0 | h0
  · rw [rowL_no (partB_low h0).symm]
    go_enter Try.func32, Try.ntmps32
    go_wp2
    go_ret
    exact ⟨_, rfl, World.ownsRow_nil _ _ _ _, W64.nil, Below.refl _ _⟩
  rcases Int.lt_or_le 6 n with h6 | h6
  · rw [rowL_no (by rw [← partB_rest h0, decide_eq_false_iff_not]; omega)]
    go_enter Try.func32, Try.ntmps32
    go_wp2
    go_ret
    exact ⟨_, rfl, World.ownsRow_nil _ _ _ _, W64.nil, Below.refl _ _⟩
  obtain ⟨m, rfl, hm⟩ : ∃ m : Nat, n = m ∧ m ≤ 6 := ⟨n.toNat, by omega, by omega⟩
  rw [rowL_yes hm]
  have HV : Hid (IntKind.i64.wrap v = v) := hv
  clear hv
  obtain ⟨w2, hmk, K0, B0⟩ := make64 w m (by omega)
  have HK0 : Hid (Blk w2 w.heap.size (fillL m 0 v)) := by rw [fillL_zero]; exact K0
  have HB0 : Hid (Below w.heap.size w w2) := B0
  clear K0 B0
  go_enter Try.func32, Try.ntmps32
  go_wp2
  go_loopw [6] (fun i wr => ∃ k : Nat, k ≤ m ∧ i = .int .i64 k ∧ Below w.heap.size w wr ∧ Blk wr w.heap.size (fillL m k v)) (fun i _ => m - (intOf i).toNat)
  case atStart => exact ⟨0, Nat.zero_le _, rfl, HB0.out, HK0.out⟩
  case round =>
    obtain ⟨k, hk, rfl, bel, blk⟩ := hrel
    have HB : Hid (Below w.heap.size w wr) := bel
    have HK : Hid (Blk wr w.heap.size (fillL m k v)) := blk
    clear bel blk
    by_cases hlt : k < m
    · have c0 := HK.out.cell (i := k) (by rw [fillL_len hk]; exact hlt)
      have f0 := HK.out.free k
      go_wp2
      go_roundw
      case rel =>
        refine ⟨k + 1, by omega, by go_num, HB.out.setCell (p := ⟨w.heap.size, k, none⟩) (Nat.le_refl _) _, ?_⟩
        rw [← fillL_set hlt]
        exact HK.out.set k v
      case measure => simp [intOf]; omega
    · obtain rfl : k = m := by omega
      go_wp2
      go_ret
      exact row_end hm HV.out HK.out HB.out

end Go.Proofs.Ytpaieecbedgeaaa
