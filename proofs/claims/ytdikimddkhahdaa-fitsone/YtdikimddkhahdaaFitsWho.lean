/-
  fits: who falls short.
-/
import Derived.Test.YtdikimddkhahdaaFitsOver
import Derived.Test.YtdikimddkhahdaaIntRow
namespace Go.Proofs.Ytdikimddkhahdaa
open Go.RowKit
set_option linter.unusedVariables false
set_option linter.unusedSimpArgs false

def shortZ (b : Bks) (z : List Int) (n i : Nat) : Bool := decide (0 < outZ z i) && (lackZ (b.A.getD i a30).1 (b.A.getD i a30).2.1 (b.A.getD i a30).2.2 z i || overZ b z n i)
def whoZ (b : Bks) (z : List Int) (n k : Nat) : List Nat := (List.range k).filter (shortZ b z n)
theorem whoZ_zero (b : Bks) (z : List Int) (n : Nat) : whoZ b z n 0 = [] := rfl
theorem whoZ_yes {b : Bks} {z : List Int} {n k : Nat} (h : shortZ b z n k = true) : whoZ b z n (k + 1) = whoZ b z n k ++ [k] := by
  unfold whoZ
  rw [List.range_succ, List.filter_append]
  simp [h]
theorem whoZ_no {b : Bks} {z : List Int} {n k : Nat} (h : shortZ b z n k = false) : whoZ b z n (k + 1) = whoZ b z n k := by
  unfold whoZ
  rw [List.range_succ, List.filter_append]
  simp [h]
theorem whoZ_len (b : Bks) (z : List Int) (n k : Nat) : (whoZ b z n k).length ≤ k := by
  have := List.length_filter_le (shortZ b z n) (List.range k)
  simpa [whoZ] using this
theorem whoZ_lt {b : Bks} {z : List Int} {n k : Nat} : ∀ i ∈ whoZ b z n k, i < k := by
  intro i hi
  simp [whoZ] at hi
  exact hi.1

set_option maxHeartbeats 8000000 in
set_option maxRecDepth 100000 in
theorem whoIsShort_any (x : BA) (b : Bks) (z : List Int) (w : World) (hk : Bk w x b) (g : Good b) (h : MvOk z) (h0 : ∀ i j, i < b.A.length → b.A.length ≤ j → j < 6 → z.getD (i * 6 + j) 0 = 0) :
    Calls Try.prog 30 #[x.val, .agg (mvA z)] w (IEnd w (whoZ b z b.A.length b.A.length)) := by
  have HK : Hid (Bk w x b) := hk
  obtain ⟨n, cA, cB, cM, cP, bA, oA, bB, oB, bM, oM, bP, oP, hx, hn, FL⟩ := hk.flat g
  have EX := fun (i : Nat) (hi : i < n) u (hu : Below w.heap.size w u) => exceeds_any x b z i u (HK.out.below hu) g h (by omega) (fun j h1 h2 => h0 i j (by omega) h1 h2)
  have n6 := g.n6
  have HA : Hid (∀ i, i < n → acctB (b.A.getD i a30).1 (b.A.getD i a30).2.1 (b.A.getD i a30).2.2 = true) := fun i hi => g.acc i (by omega)
  rw [← hn] at EX n6 ⊢
  subst hx
  have HEX : Hid (∀ (i : Nat), i < n → ∀ u, Below w.heap.size w u → Calls Try.prog 39 #[.agg #[.slice (some ⟨bA, oA, none⟩) n cA, .slice (some ⟨bB, oB, none⟩) n cB, .slice (some ⟨bM, oM, none⟩) n cM, .slice (some ⟨bP, oP, none⟩) n cP], .agg (mvA z), .int .i64 i] u fun e w' => e = .returned (.bool (overZ b z n i)) ∧ Below u.heap.size u w') := EX
  have HLA : Hid (∀ (b0 c0 r0 : Int) (i : Nat) (u : World), acctB b0 c0 r0 = true → i < 6 → Calls Try.prog 38 #[.agg #[.int .i64 b0, .int .i64 c0, .int .i64 r0], .agg (mvA z), .int .i64 i] u fun e w' => e = .returned (.bool (lackZ b0 c0 r0 z i)) ∧ Below u.heap.size u w') := fun b0 c0 r0 i u ha hi => lacks_any b0 c0 r0 z i u ha h hi
  have HOU : Hid (∀ (i : Nat) (u : World), i < 6 → Calls Try.prog 37 #[.agg (mvA z), .int .i64 i] u fun e w' => e = .returned (.int .i64 (outZ z i)) ∧ Below u.heap.size u w') := fun i u hi => out_any z i u h hi
  have HZ : Hid (z.length = 42) := h.len
  obtain ⟨w2, hw2⟩ : ∃ w2, w2 = (w.alloc (.cells #[.slice (some ⟨bA, oA, none⟩) n cA, .slice (some ⟨bB, oB, none⟩) n cB, .slice (some ⟨bM, oM, none⟩) n cM, .slice (some ⟨bP, oP, none⟩) n cP] 26)).alloc (.cells (mvA z) 60) := ⟨_, rfl⟩
  have B2 : Hid (Below w.heap.size w w2) := by rw [hw2]; exact (box_below _ _).alloc (box_below _ _).size _
  have X2 : Hid (Box4 w2 w.heap.size ⟨some ⟨bA, oA, none⟩, n, cA, some ⟨bB, oB, none⟩, n, cB, some ⟨bM, oM, none⟩, n, cM, some ⟨bP, oP, none⟩, n, cP⟩) := by rw [hw2]; exact (Box4.new w ⟨some ⟨bA, oA, none⟩, n, cA, some ⟨bB, oB, none⟩, n, cB, some ⟨bM, oM, none⟩, n, cM, some ⟨bP, oP, none⟩, n, cP⟩ _ _).below (box_below _ _)
  have M2 : Hid (MvAt w2 (w.heap.size + 1) z) := by
    rw [hw2, ← size_alloc w (.cells #[.slice (some ⟨bA, oA, none⟩) n cA, .slice (some ⟨bB, oB, none⟩) n cB, .slice (some ⟨bM, oM, none⟩) n cM, .slice (some ⟨bP, oP, none⟩) n cP] 26)]
    exact MvAt.new _ z h.len _ _
  have FW : Hid (Flat w2 b n bA oA bB oB bM oM bP oP) := FL.below B2.out
  have HN6 : Hid (n ≤ 6) := n6
  clear hn FL h h0 g hk EX HK
  go_enter Try.func30, Try.ntmps30
  go_upto_region 1 with fail
  rw [← hw2]
  clear hw2
  obtain ⟨p0, _, _, _⟩ := X2.out
  replace p0 : w2.cell? ⟨w.heap.size, 0, none⟩ = some (.slice (some ⟨bA, oA, none⟩) n cA) := p0
  go_wp2
  clear p0
  go_loopw [5, 6, 7, 11] (fun sv _ _ t wr => ∃ (k m : Nat) (v : Value), k ≤ n ∧ t = .int .i64 k ∧ v = sv ∧ m ≤ k ∧ Hid (wr.ownsRow w2.heap.size 3 1 v m (intsV (whoZ b z n k))) ∧ Hid (Below w2.heap.size w2 wr)) (fun _ _ _ t _ => n - (intOf t).toNat)
  case atStart => exact ⟨0, 0, _, by omega, rfl, rfl, by omega, World.ownsRow_nil _ _ _ _, Below.refl _ _⟩
  case round =>
    obtain ⟨k, m, v, hk, rfl, rfl, hm, HO, HB⟩ := hrel
    by_cases hlt : k < n
    · have k1 : (k : Int) < (n : Int) := by omega
      have k6 : k < 6 := by omega
      have L := fun u => HLA.out _ _ _ k u (HA.out k hlt) k6
      have E := HEX.out k hlt
      have O := fun u => HOU.out k u k6
      obtain ⟨c0, c1, c2⟩ := (FW.out.below HB.out).acc k hlt
      have HS : Hid (shortZ b z n k = (decide (0 < outZ z k) && (lackZ (b.A.getD k a30).1 (b.A.getD k a30).2.1 (b.A.getD k a30).2.2 z k || overZ b z n k))) := rfl
      generalize lackZ (b.A.getD k a30).1 (b.A.getD k a30).2.1 (b.A.getD k a30).2.2 z k = q1 at L HS
      generalize overZ b z n k = q2 at E HS
      generalize outZ z k = ou at O HS
      generalize (b.A.getD k a30).1 = a0 at c0 L
      generalize (b.A.getD k a30).2.1 = a1 at c1 L
      generalize (b.A.getD k a30).2.2 = a2 at c2 L
      have B4 : Hid (Below w2.heap.size w2 (wr.alloc (.cells #[.int .i64 a0, .int .i64 a1, .int .i64 a2] 47))) := HB.out.alloc HB.out.size _
      have R4 : Hid (At3 (wr.alloc (.cells #[.int .i64 a0, .int .i64 a1, .int .i64 a2] 47)) wr.heap.size a0 a1 a2) := At3.new _ _ _ _ _ _
      have O4 : Hid ((wr.alloc (.cells #[.int .i64 a0, .int .i64 a1, .int .i64 a2] 47)).ownsRow w2.heap.size 3 1 v m (intsV (whoZ b z n k))) := own_below HO.out (box_below _ _)
      clear HO HB
      go_wp2_with (refine load_mv (.tmp 3) rfl rfl (w.heap.size + 1) rfl z HZ.out (M2.out.below B4.out) ?_)
      go_at_call 37
      refine (O _).mono ?_
      rintro e w5 ⟨rfl, hb⟩
      have B5 : Hid (Below w2.heap.size w2 w5) := B4.out.trans (hb.mono B4.out.size)
      have O5 : Hid (w5.ownsRow w2.heap.size 3 1 v m (intsV (whoZ b z n k))) := own_below O4.out hb
      obtain ⟨r0, r1, r2⟩ := R4.out.below hb
      clear hb O B4 R4 O4 c0 c1 c2
      rcases Int.lt_or_le 0 ou with ho | ho
      case inr =>
        have HF : Hid (whoZ b z n (k + 1) = whoZ b z n k) := whoZ_no (by rw [HS.out, decide_eq_false (by omega)]; rfl)
        have hd : decide (0 < ou) = false := decide_eq_false (by omega)
        clear HS L E ho r0 r1 r2
        go_wp2
        go_roundw
        case rel => exact ⟨k + 1, m, v, by omega, by go_num, rfl, by omega, by rw [HF.out]; exact O5.out, B5⟩
        case measure => simp [intOf]; omega
      have HS : Hid (shortZ b z n k = (q1 || q2)) := by
        show _ = _
        rw [HS.out, decide_eq_true ho]; rfl
      go_wp2_with (refine load_mv (.tmp 3) rfl rfl (w.heap.size + 1) rfl z HZ.out (M2.out.below B5.out) ?_)
      go_at_call 38
      refine (L _).mono ?_
      rintro e w6 ⟨rfl, hb⟩
      have B6 : Hid (Below w2.heap.size w2 w6) := B5.out.trans (hb.mono B5.out.size)
      have O6 : Hid (w6.ownsRow w2.heap.size 3 1 v m (intsV (whoZ b z n k))) := own_below O5.out hb
      clear hb L B5 O5 r0 r1 r2
      cases q1 with
      | true =>
        have HF : Hid (whoZ b z n (k + 1) = whoZ b z n k ++ [k]) := whoZ_yes (by rw [HS.out]; rfl)
        clear E HS
        go_wp2_with (at_builtin; refine append_one rfl _ _ rfl w2.heap.size v m (whoZ b z n k) rfl O6.out k (by omega) (by omega) B6.out.size rfl ?_)
        intro v8 w8 h8 g8
        have O8 : Hid (w8.ownsRow w2.heap.size 3 1 v8 (m + 1) (intsV (whoZ b z n (k + 1)))) := by rw [HF.out]; exact h8
        have B8 : Hid (Below w2.heap.size w2 w8) := (B6.out.alloc B6.out.size _).grown g8 (by rw [size_alloc]; have := B6.out.size; omega) (fun j hj => (O6.out.lt j hj).1)
        clear h8 g8
        go_wp2
        go_roundw
        case rel => exact ⟨k + 1, m + 1, v8, by omega, by go_num, rfl, by omega, O8, B8⟩
        case measure => simp [intOf]; omega
      | false =>
        obtain ⟨s0, s1, s2, s3⟩ := X2.out.below B6.out
        replace s0 : w6.cell? ⟨w.heap.size, 0, none⟩ = some (.slice (some ⟨bA, oA, none⟩) n cA) := s0
        replace s1 : w6.cell? ⟨w.heap.size, 1, none⟩ = some (.slice (some ⟨bB, oB, none⟩) n cB) := s1
        replace s2 : w6.cell? ⟨w.heap.size, 2, none⟩ = some (.slice (some ⟨bM, oM, none⟩) n cM) := s2
        replace s3 : w6.cell? ⟨w.heap.size, 3, none⟩ = some (.slice (some ⟨bP, oP, none⟩) n cP) := s3
        go_wp2_with (refine load_mv (.tmp 3) rfl rfl (w.heap.size + 1) rfl z HZ.out (M2.out.below B6.out) ?_)
        go_at_call 39
        refine (E _ (B2.out.trans (B6.out.mono B2.out.size))).mono ?_
        rintro e w7 ⟨rfl, hb⟩
        have B7 : Hid (Below w2.heap.size w2 w7) := B6.out.trans (hb.mono B6.out.size)
        have O7 : Hid (w7.ownsRow w2.heap.size 3 1 v m (intsV (whoZ b z n k))) := own_below O6.out hb
        clear hb E B6 O6 s0 s1 s2 s3
        cases q2 with
        | true =>
          have HF : Hid (whoZ b z n (k + 1) = whoZ b z n k ++ [k]) := whoZ_yes (by rw [HS.out]; rfl)
          clear HS
          go_wp2_with (at_builtin; refine append_one rfl _ _ rfl w2.heap.size v m (whoZ b z n k) rfl O7.out k (by omega) (by omega) B7.out.size rfl ?_)
          intro v8 w8 h8 g8
          have O8 : Hid (w8.ownsRow w2.heap.size 3 1 v8 (m + 1) (intsV (whoZ b z n (k + 1)))) := by rw [HF.out]; exact h8
          have B8 : Hid (Below w2.heap.size w2 w8) := (B7.out.alloc B7.out.size _).grown g8 (by rw [size_alloc]; have := B7.out.size; omega) (fun j hj => (O7.out.lt j hj).1)
          clear h8 g8
          go_wp2
          go_roundw
          case rel => exact ⟨k + 1, m + 1, v8, by omega, by go_num, rfl, by omega, O8, B8⟩
          case measure => simp [intOf]; omega
        | false =>
          have HF : Hid (whoZ b z n (k + 1) = whoZ b z n k) := whoZ_no (by rw [HS.out]; rfl)
          clear HS
          go_wp2
          go_roundw
          case rel => exact ⟨k + 1, m, v, by omega, by go_num, rfl, by omega, by rw [HF.out]; exact O7.out, B7⟩
          case measure => simp [intOf]; omega
    · obtain rfl : k = n := by omega
      have BW : Hid (Below w.heap.size w wr) := B2.out.trans (HB.out.mono B2.out.size)
      obtain ⟨a, c, rfl, hg⟩ := IGood.own HO.out (fun i hi => by have := whoZ_lt i hi; have := HN6.out; omega)
      have HG : Hid (IGood wr a (whoZ b z k k).length c (whoZ b z k k)) := hg
      clear hg HO HB
      go_wp2
      go_ret
      exact ⟨a, c, rfl, HG.out, BW.out⟩

end Go.Proofs.Ytdikimddkhahdaa
