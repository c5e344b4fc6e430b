/-
  The walk of girolaw2.WordRows: it answers true whatever the argument, and writes nothing that was there.
-/
import Derived.Test.YtnakleldhfenjaaWalkOwn
namespace Go.Proofs.Ytnakleldhfenjaa
open Go.RowKit
set_option linter.unusedVariables false

/-- The rows' bytes, one behind the other. -/
def flat (f : Nat → List Int) : Nat → List Int
  | 0 => []
  | k + 1 => flat f k ++ rowS (f k)
/-- .. from the k-th on. -/
def restF (f : Nat → List Int) : Nat → Nat → List Int
  | _, 0 => []
  | k, m + 1 => rowS (f k) ++ restF f (k + 1) m

theorem restF_snoc (f : Nat → List Int) : ∀ m k, restF f k (m + 1) = restF f k m ++ rowS (f (k + m))
  | 0, k => by simp [restF]
  | m + 1, k => by
    rw [restF, restF_snoc f m (k + 1), restF, List.append_assoc, show k + 1 + m = k + (m + 1) by omega]
theorem restF_flat (f : Nat → List Int) (n : Nat) : restF f 0 n = flat f n := by
  induction n with
  | zero => rfl
  | succ n ih => rw [restF_snoc, ih, flat, Nat.zero_add]
theorem flat_length (f : Nat → List Int) (k : Nat) (h : ∀ r, r < k → (f r).length ≤ 20) : (flat f k).length ≤ 168 * k := by
  induction k with
  | zero => simp [flat]
  | succ k ih =>
    have h1 := ih (fun r hr => h r (by omega))
    have h2 := h k (by omega)
    rw [flat, List.length_append, rowS_length]
    omega
theorem restF_length (f : Nat → List Int) : ∀ m k, (∀ r, r < k + m → (f r).length ≤ 20) → (restF f k m).length ≤ 168 * m
  | 0, k, _ => by simp [restF]
  | m + 1, k, h => by
    have h1 := restF_length f m (k + 1) (fun r hr => h r (by omega))
    have h2 := h k (by omega)
    rw [restF, List.length_append, rowS_length]
    omega
theorem flat_wf (f : Nat → List Int) (k : Nat) : ∀ n ∈ flat f k, IntKind.u8.wrap n = n := by
  induction k with
  | zero => intro n hn; simp [flat] at hn
  | succ k ih =>
    intro n hn
    rw [flat, List.mem_append] at hn
    rcases hn with hn | hn
    · exact ih n hn
    · exact rowS_wf _ n hn

namespace Walk

/-- A slice of slices of integers that came in. -/
def IsRows (w : World) (a : Option Addr) (len cap : Nat) (A : Nat → Option Addr) (L C : Nat → Nat) (Z : Nat → List Int) : Prop :=
  (a = none ∧ len = 0 ∧ cap = 0) ∨
  ∃ x, a = some x ∧ len ≤ cap ∧ cap ≤ maxLen ∧ ∀ r, r < cap → w.cell? (x.add r) = some (.slice (A r) (L r) (C r)) ∧ Sl .i64 w (A r) (L r) (Z r) ∧ L r ≤ C r ∧ C r ≤ 9223372036854775807

set_option maxHeartbeats 400000 in
theorem rows_long (a : Option Addr) (len cap : Nat) (w : World) (h : 12 < len) (hm : len ≤ 9223372036854775807) :
    Calls Try.prog 7 #[.slice a len cap] w fun e w' => e = .returned (.bool true) ∧ Below w.heap.size w w' := by
  have h1 : (12 : Int) < (len : Int) := by omega
  go_enter Try.func7, Try.ntmps7
  go_wp2
  go_ret
  exact ⟨rfl, Below.refl _ _⟩

set_option maxHeartbeats 2000000 in
theorem rows_in (b off len cap : Nat) (A : Nat → Option Addr) (L C : Nat → Nat) (Z : Nat → List Int) (w : World) (h12 : len ≤ 12)
    (hx : ∀ r, r < len → w.cell? ⟨b, off + r, none⟩ = some (.slice (A r) (L r) (C r)) ∧ Sl .i64 w (A r) (L r) (Z r) ∧ L r ≤ C r ∧ C r ≤ 9223372036854775807) (hbw : len = 0 ∨ b < w.heap.size) :
    Calls Try.prog 7 #[.slice (some ⟨b, off, none⟩) len cap] w fun e w' => e = .returned (.bool true) ∧ Below w.heap.size w w' := by
  obtain ⟨i0, hi, hz0, hz1, hz2⟩ := info_parts infoU8
  have h1 : (len : Int) ≤ 12 := by omega
  go_enter Try.func7, Try.ntmps7
  go_wp2
  go_loopw [3, 4] (fun v i wr => ∃ (k : Nat), k ≤ len ∧ i = .int .i64 k ∧ wr.ownsRow w.heap.size 5 1 v (flat Z k).length ((flat Z k).map (Value.int .u8)) ∧ (∀ r, r < k → (Z r).length ≤ 20) ∧ Below w.heap.size w wr) (fun _ i _ => len - (intOf i).toNat)
  case atStart => exact ⟨0, by omega, rfl, World.ownsRow_nil _ _ _ _, fun r hr => absurd hr (by omega), Below.refl _ _⟩
  case round =>
    obtain ⟨k, hk, rfl, hown, h20, hbel⟩ := hrel
    by_cases hlt : k < len
    · obtain ⟨c0, S0, l0, l1⟩ := hx k hlt
      have hbw' : b < w.heap.size := hbw.resolve_left (by omega)
      have c1 : wr.cell? ⟨b, off + k, none⟩ = some (.slice (A k) (L k) (C k)) := by rw [hbel.cell (p := ⟨b, off + k, none⟩) hbw']; exact c0
      have S1 := S0.below hbel
      have k1 : (k : Int) < (len : Int) := by omega
      have k2 := S0.1
      have hF := flat_length Z k h20
      have Hown : Hid (wr.ownsRow w.heap.size 5 1 _ (flat Z k).length ((flat Z k).map (Value.int .u8))) := hown
      have Hbel : Hid (Below w.heap.size w wr) := hbel
      have H20 : Hid (∀ r, r < k → (Z r).length ≤ 20) := h20
      have Hx : Hid (∀ r, r < len → w.cell? ⟨b, off + r, none⟩ = some (.slice (A r) (L r) (C r)) ∧ Sl .i64 w (A r) (L r) (Z r) ∧ L r ≤ C r ∧ C r ≤ 9223372036854775807) := hx
      obtain ⟨N, hN⟩ : ∃ N, (flat Z k).length = N := ⟨_, rfl⟩
      have HN : Hid ((flat Z k).length = N) := hN
      have HZ : Hid (L k = (Z k).length) := k2
      generalize L k = Lk at *
      generalize A k = Ak at *
      generalize C k = Ck at *
      clear hown hbel h20 hx hN k2
      by_cases hbig : (20 : Int) < (Lk : Int)
      · go_wp2
        go_ret
        exact ⟨rfl, Hbel.out⟩
      · have hL20 : Lk ≤ 20 := by omega
        go_wp2_with fail
        refine (row_any Ak Lk Ck (Z k) wr S1 (by omega)).mono ?_
        rintro e w1 ⟨g1, d1, rfl, hown1, bel1⟩
        obtain ⟨a1, d1', hv, T1, _⟩ := Sl.own hown1 (rowS_wf (Z k))
        simp only [Value.slice.injEq, true_and] at hv
        obtain ⟨rfl, rfl⟩ := hv
        have hR : (rowS (Z k)).length ≤ 168 := by rw [rowS_length, ← HZ.out]; omega
        obtain ⟨R, hR'⟩ : ∃ R, (rowS (Z k)).length = R := ⟨_, rfl⟩
        rw [hR'] at T1 hR ⊢
        have HR : Hid ((rowS (Z k)).length = R) := hR'
        have ho := own_below Hown.out bel1
        have b1 := Hbel.out.trans (bel1.mono Hbel.out.size)
        rw [HN.out] at hF ho
        clear hR' hown1 bel1
        go_wp2_with (at_builtin; refine wpList_append_sl rfl _ _ 23 rfl w.heap.size 5 i0 (.int .u8 0) 1 Try.underlying23 hi hz0 hz1 hz2 rfl _ _ _ rfl ho .u8 (some ⟨g1, 0, none⟩) R d1 (rowS (Z k)) rfl T1 (fun h => by simp at h) ?c3 ?c4 ?c5 ?_)
        case c3 => unfold maxLen; omega
        case c4 => omega
        case c5 => exact b1.size
        intro v2 w2 hown2 hg2 _
        have B2 : Hid (Below w.heap.size w w2) := b1.grown hg2 b1.size (fun j hj => (ho.lt j hj).1)
        have O2 : Hid (w2.ownsRow w.heap.size 5 1 v2 (flat Z (k + 1)).length ((flat Z (k + 1)).map (Value.int .u8))) := by
          show w2.ownsRow w.heap.size 5 1 v2 (flat Z (k + 1)).length ((flat Z (k + 1)).map (Value.int .u8))
          rw [flat, List.length_append, HN.out, HR.out, List.map_append]
          exact hown2
        have G2 : Hid (∀ r, r < k + 1 → (Z r).length ≤ 20) := by
          intro r hr
          by_cases hrk : r = k
          · subst hrk; rw [← HZ.out]; exact hL20
          · exact H20.out r (by omega)
        clear hown2 hg2 ho b1 T1 Hown Hbel S0 S1 c0 c1
        go_wp2
        go_roundw
        case rel => exact ⟨k + 1, by omega, by go_num, O2.out, G2.out, B2.out⟩
        case measure => simp [intOf]; omega
    · obtain rfl : k = len := by omega
      obtain ⟨a2, c2, rfl, S2, _⟩ := Sl.own hown (flat_wf Z k)
      obtain ⟨p1, p2⟩ := own_cap hown
      rw [← restF_flat] at S2 p1 ⊢
      have Hx : Hid (∀ r, r < k → w.cell? ⟨b, off + r, none⟩ = some (.slice (A r) (L r) (C r)) ∧ Sl .i64 w (A r) (L r) (Z r) ∧ L r ≤ C r ∧ C r ≤ 9223372036854775807) := hx
      have H20 : Hid (∀ r, r < k → (Z r).length ≤ 20) := h20
      have S2' : Hid (Sl .u8 wr a2 (restF Z 0 k).length (restF Z 0 k)) := S2
      have P1 : Hid ((restF Z 0 k).length ≤ c2) := p1
      have Hbel : Hid (Below w.heap.size w wr) := hbel
      obtain ⟨wo, rfl⟩ : ∃ wo, wo = wr := ⟨wr, rfl⟩
      generalize (restF Z 0 k).length = n2 at *
      clear hx h20 hown S2 p1 hbel
      go_wp2
      go_loopw [3, 5] (fun v i wr => ∃ (j n : Nat) (a' : Option Addr) (c' : Nat), j ≤ k ∧ i = .int .i64 j ∧ v = .slice a' n c' ∧ n ≤ c' ∧ c' ≤ 9223372036854775807 ∧ Sl .u8 wr a' n (restF Z j (k - j)) ∧ Below w.heap.size w wr) (fun _ i _ => k - (intOf i).toNat)
      case atStart => exact ⟨0, n2, a2, c2, by omega, rfl, rfl, P1.out, p2, S2'.out, Hbel.out⟩
      case round =>
        obtain ⟨j, n, a', c', hj, rfl, rfl, q1, q2, hS, hbel⟩ := hrel
        have hlen := restF_length Z (k - j) j (fun r hr => H20.out r (by omega))
        have hn := hS.1
        by_cases hjlt : j < k
        · obtain ⟨c0, S0, l0, l1⟩ := Hx.out j hjlt
          have hbw' : b < w.heap.size := hbw.resolve_left (by omega)
          have z20 := H20.out j hjlt
          have er : restF Z j (k - j) = rowS (Z j) ++ restF Z (j + 1) (k - (j + 1)) := by
            rw [show k - j = (k - (j + 1)) + 1 by omega, restF]
          have N := next_all a' n c' _ wr hS q1 q2 (by omega)
          unfold NextAll at N
          rw [er, next_row (Z j) _ S0.2.1 (by omega)] at N
          have hz := S0.1
          rw [← hz] at N
          obtain ⟨M, hM⟩ : ∃ M, (restF Z (j + 1) (k - (j + 1))).length = M := ⟨_, rfl⟩
          simp only [hM] at N
          have k1 : (j : Int) < (k : Int) := by omega
          have Lb : L j ≤ 9223372036854775807 := by omega
          generalize L j = Lj at *
          generalize A j = Aj at *
          generalize C j = Cj at *
          have HS0 : Hid (Sl .i64 w Aj Lj (Z j)) := S0
          have Hb : Hid (Below w.heap.size w wr) := hbel
          clear hlen hn er hz hM S0 hS hbel S2' P1 z20
          go_wp2_with fail
          refine N.mono ?_
          rintro e w3 ⟨a3, d3, b3, f3, rfl, V3, T3, t1, t2, _, bel3⟩
          have B3 := Hb.out.trans (bel3.mono Hb.out.size)
          have c1 : w3.cell? ⟨b, off + j, none⟩ = some (.slice Aj Lj Cj) := by rw [B3.cell (p := ⟨b, off + j, none⟩) hbw']; exact c0
          have Q := same_any a3 Aj Lj Lj d3 Cj (Z j) (Z j) w3 V3 (HS0.out.below B3) Lb
          simp only [decide_true] at Q
          have HT : Hid (Sl .u8 w3 b3 M (restF Z (j + 1) (k - (j + 1)))) := T3.below bel3
          have HB3 : Hid (Below w.heap.size w w3) := B3
          clear N V3 T3 bel3 B3 c0 Hb
          go_wp2_with (go_at_call 15; refine Q.mono ?_; rintro e w4 ⟨rfl, k4, rfl⟩)
          go_roundw
          case rel => exact ⟨j + 1, M, b3, f3, by omega, by go_num, rfl, t1, t2, HT.out, below_drewN HB3.out _⟩
          case measure => simp [intOf]; omega
        · obtain rfl : j = k := by omega
          rw [Nat.sub_self, restF] at hS
          rw [Nat.sub_self, restF] at hn
          simp at hn
          subst hn
          have N := next_all a' 0 c' [] wr hS q1 q2 (by omega)
          have e0 : nextT [] = ([], [], false) := by decide
          unfold NextAll at N
          rw [e0] at N
          have Hb : Hid (Below w.heap.size w wr) := hbel
          clear hlen hS hbel S2' P1
          go_wp2_with fail
          refine N.mono ?_
          rintro e w3 ⟨a3, d3, b3, f3, rfl, _, _, _, _, _, bel3⟩
          have B3 : Hid (Below w.heap.size w w3) := Hb.out.trans (bel3.mono Hb.out.size)
          clear N bel3
          go_wp2_with (go_at_call 16; refine (known2_any _).mono ?_; rintro e w7 ⟨rfl, bel7⟩)
          go_ret
          exact ⟨rfl, B3.out.trans (bel7.mono B3.out.size)⟩

set_option maxHeartbeats 1000000 in
theorem rows_zero (a : Option Addr) (cap : Nat) (w : World) : Calls Try.prog 7 #[.slice a 0 cap] w fun e w' => e = .returned (.bool true) ∧ Below w.heap.size w w' := by
  have N := next_all none 0 0 [] w (Sl.nil _ _ _) (by decide) (by decide) (by decide)
  have e0 : nextT [] = ([], [], false) := by decide
  unfold NextAll at N
  rw [e0] at N
  go_enter Try.func7, Try.ntmps7
  go_wp2
  refine wp_loop_rounds 1 ?_
  rw [rounds_succ]
  go_wp2
  refine wp_loop_rounds 1 ?_
  rw [rounds_succ]
  go_wp2_with fail
  refine N.mono ?_
  rintro e w3 ⟨a3, d3, b3, f3, rfl, _, _, _, _, _, bel3⟩
  clear N
  go_wp2_with (go_at_call 16; refine (known2_any _).mono ?_; rintro e w7 ⟨rfl, bel7⟩)
  go_ret
  exact ⟨rfl, bel3.trans (bel7.mono bel3.size)⟩

theorem wordRows (a0 : Option Addr) (len0 cap0 : Nat) (A : Nat → Option Addr) (L C : Nat → Nat) (Z : Nat → List Int) (w : World) (w0 : IsRows w a0 len0 cap0 A L C Z) :
    Calls Try.prog 7 #[.slice a0 len0 cap0] w fun e w' => e = .returned (.bool true) ∧ Below w.heap.size w w' := by
  by_cases h0 : len0 = 0
  · subst h0; exact rows_zero a0 cap0 w
  · rcases w0 with ⟨_, h1, _⟩ | ⟨x, rfl, h1, h2, h3⟩
    · exact absurd h1 h0
    · unfold maxLen at h2
      by_cases h12 : 12 < len0
      · exact rows_long _ len0 cap0 w h12 (by omega)
      · obtain ⟨b, off, spot⟩ := x
        have hs := (h3 0 (by omega)).1
        have hspot : spot = none := by simpa [Addr.add] using World.cell?_spot hs
        subst hspot
        have hb : b < w.heap.size := by
          rw [Addr.add_flat] at hs
          exact block_lt_of_cell hs
        refine rows_in b off len0 cap0 A L C Z w (by omega) ?_ (.inr hb)
        intro r hr
        have := h3 r (by omega)
        rw [Addr.add_flat] at this
        exact this

/-- What the reading of a slice of slices tells the walk. -/
theorem isRows_row {w : World} {A : Option Addr} {L C : Nat} {Z : List Int} (h1 : L ≤ C) (h2 : C ≤ maxLen) (h3 : Z.length = C) (h4 : ∀ n ∈ Z, (Lit.int .i64 n).wf = true) (h5 : A = none → C = 0)
    (h6 : ∀ a', A = some a' → ∀ c, c < C → w.cell? (a'.add c) = some (.int .i64 (Z.getD c 0))) : Sl .i64 w A L (Z.take L) ∧ L ≤ C ∧ C ≤ 9223372036854775807 := by
  refine (IsRow.sl (k := .i64) (w := w) (a := A) (len := L) (cap := C) (zs := Z) ?_ wf_i64')
  cases A with
  | none =>
    have h0 := h5 rfl
    subst h0
    exact .inl ⟨rfl, by omega, rfl, List.length_eq_zero_iff.mp h3⟩
  | some x => exact .inr ⟨x, rfl, h1, h2, h3, fun i hi => h6 x rfl i (by omega), h4⟩

end Walk
end Go.Proofs.Ytnakleldhfenjaa
