/-
  girolaw4.TapeKeeps.
-/
import Derived.Test.YtcclpmjoofaepaaTapeFacts
import Derived.Test.YtcclpmjoofaepaaWalkOwn4
namespace Go.Proofs.Ytcclpmjoofaepaa
open Go.RowKit
set_option linter.unusedVariables false
set_option linter.unusedSimpArgs false

theorem strOfNums_append (xs ys : List Int) : strOfNums (xs ++ ys) = strOfNums xs ++ strOfNums ys := by
  apply ByteArray.ext
  apply Array.toList_inj.1
  simp [strOfNums_data]

set_option maxHeartbeats 8000000 in
theorem keeps_main (a0 : Option Addr) (la cap0 : Nat) (za : List Int) (a1 : Option Addr) (lb cap1 : Nat) (zb : List Int) (a2 : Option Addr) (lc cap2 : Nat) (zc : List Int) (kp : Int) (w : World)
    (hA : Sl .u8 w a0 la za) (hB : Sl .u8 w a1 lb zb) (hC : Sl .u8 w a2 lc zc) (n0 : a0 = none → cap0 = 0) (n1 : a1 = none → cap1 = 0) (n2 : a2 = none → cap2 = 0) (q0 : la ≤ cap0) (q1 : lb ≤ cap1) (q2 : lc ≤ cap2)
    (m1 : cap1 ≤ 9223372036854775807) (m2 : cap2 ≤ 9223372036854775807) (h0 : la ≤ 100) (h1 : lb ≤ 100) (h2 : lc ≤ 100) (hk1 : kp ≤ 9223372036854775807)
    (K k j lj : Nat) (hK : (if kp < 0 then 0 else kp) = (K : Int)) (hk : min K lb = k) (hj : min (K - k) lc = j) (hlj : lj = la + j) :
    Calls Try.prog 4 #[.slice a0 la cap0, .slice a1 lb cap1, .slice a2 lc cap2, .int .i64 kp] w fun e w' => e = .returned (.bool true) ∧ Below w.heap.size w w' := by
  have HS : Hid (Sl .u8 w a0 la za ∧ Sl .u8 w a1 lb zb ∧ Sl .u8 w a2 lc zc) := ⟨hA, hB, hC⟩
  have HN : Hid ((a0 = none → cap0 = 0) ∧ (a1 = none → cap1 = 0) ∧ (a2 = none → cap2 = 0)) := ⟨n0, n1, n2⟩
  have HL : Hid (zb.length = lb ∧ za.length = la ∧ zc.length = lc) := ⟨hB.1.symm, hA.1.symm, hC.1.symm⟩
  have ha := hA.1
  have hb := hB.1
  have hc := hC.1
  have hKt : kp.toNat = K := by split at hK <;> omega
  obtain ⟨X, hX⟩ : ∃ X, zb.take k = X := ⟨_, rfl⟩
  obtain ⟨zj, hzj⟩ : ∃ zj, zc.take j = zj := ⟨_, rfl⟩
  obtain ⟨Y, hY⟩ : ∃ Y, za ++ zj = Y := ⟨_, rfl⟩
  have HX : Hid (X.length = k) := by show X.length = k; rw [← hX]; simp; omega
  have HY : Hid (Y.length = lj) := by show Y.length = lj; rw [← hY, ← hzj]; simp; omega
  have HC : Hid (strOfNums za ++ strOfNums zj = strOfNums Y) := by show _ = _; rw [← hY, strOfNums_append]
  -- the states
  obtain ⟨d1, hd1⟩ : ∃ d, (⟨500, [], 0, za, 0, 1, false, 0, 0, false⟩ : D) = d := ⟨_, rfl⟩
  have E1 : Hid ((D.new 500).append 1 za = (0, d1)) := by
    show _ = _
    rw [← hd1]
    simp [D.append, D.new, D.read, D.crash, D.more1]
    omega
  obtain ⟨d2, hd2⟩ : ∃ d, (⟨500, [], 0, za, za.length, 2, false, 0, 0, false⟩ : D) = d := ⟨_, rfl⟩
  have E2 : Hid (d1.sync = (0, d2)) := by
    show _ = _
    rw [← hd1, ← hd2]
    simp [D.sync, D.crash, D.kept]
  obtain ⟨d3, hd3⟩ : ∃ d, (⟨500, [], 0, za ++ zc, za.length, 3, true, 4, kp, false⟩ : D) = d := ⟨_, rfl⟩
  have E3 : Hid ((d2.armed 4 kp).append 1 zc = (0, d3)) := by
    show _ = _
    rw [← hd2, ← hd3]
    simp [D.append, D.armed, D.read, D.crash, D.more1]
    omega
  obtain ⟨d4, hd4⟩ : ∃ d, (⟨500, zb, 0, za ++ zc, za.length, 4, true, 4, kp, false⟩ : D) = d := ⟨_, rfl⟩
  have E4 : Hid (d3.append 0 zb = (0, d4)) := by
    show _ = _
    rw [← hd3, ← hd4]
    simp [D.append, D.read, D.crash, D.more0]
    omega
  obtain ⟨d5, hd5⟩ : ∃ d, (⟨500, X, k, Y, lj, 4, true, 4, kp, true⟩ : D) = d := ⟨_, rfl⟩
  have E5 : Hid (d4.sync = (11, d5)) := by
    show _ = _
    have e0 : left0 kp zb.length 0 = k := by unfold left0; omega
    have e1 : left1 kp zb.length 0 (za ++ zc).length za.length = lj := by unfold left1; rw [List.length_append]; omega
    have e2 : (za ++ zc).take lj = Y := by rw [← hY, ← hzj, hlj, ha, List.take_append, List.take_of_length_le (by omega)]; simp
    rw [← hd4, ← hd5]
    simp only [D.sync, D.crash, D.lost, e0, e1, e2, hX]
    simp
  have HZ : Hid ((strOfNums za).size + (strOfNums zj).size ≤ 9223372036854775807) := by
    show _ ≤ _
    rw [strOfNums_size, strOfNums_size, ← hzj, List.length_take]
    omega
  have O1 : Hid (d1.ops = 1 ∧ d2.ops = 2 ∧ d3.ops = 3 ∧ d4.ops = 4) := ⟨by rw [← hd1], by rw [← hd2], by rw [← hd3], by rw [← hd4]⟩
  have R5 : Hid (d5.read 0 = X ∧ d5.read 1 = Y) := ⟨by rw [← hd5]; rfl, by rw [← hd5]; rfl⟩
  obtain ⟨d6, hd6⟩ : ∃ d, d5.fresh = d := ⟨_, rfl⟩
  have R6 : Hid (d6.read 0 = X ∧ d6.read 1 = Y ∧ d6.dn = false ∧ d6.ops = 0) := by
    rw [← hd6, ← hd5]
    refine ⟨?_, ?_, rfl, rfl⟩
    · show X.take k = X; rw [← HX.out]; exact List.take_length
    · show Y.take lj = Y; rw [← HY.out]; exact List.take_length
  have SX0 : Hid (Sl .u8 w a1 k X) := by rw [← hX]; exact hB.take k (by omega)
  have SC0 : Hid (Sl .u8 w a2 j zj) := by rw [← hzj]; exact hC.take j (by omega)
  have HD6 : Hid (d5.fresh = d6) := hd6
  -- the numbers
  have ik : (k : Int) ≤ cap1 := by omega
  have ij : (j : Int) ≤ cap2 := by omega
  have hmx : ∀ (w : World) (ts : Array TypeId) (t : TypeId), (Builtin.max_ ts t #[.int .i64 kp, .int .i64 0]).run Try.prog w = .ok (.int .i64 K) w := by
    intro w ts t
    rw [run_max_int2]
    exact congrArg (fun x => Result.ok (Value.int .i64 x) w) hK
  have hmn : ∀ (w : World) (ts : Array TypeId) (t : TypeId), (Builtin.min_ ts t #[.int .i64 K, .int .i64 lb]).run Try.prog w = .ok (.int .i64 k) w := by
    intro w ts t
    rw [run_min_int2]
    exact congrArg (fun x => Result.ok (Value.int .i64 x) w) (by split <;> omega)
  have hmj : ∀ (w : World) (ts : Array TypeId) (t : TypeId), (Builtin.min_ ts t #[.int .i64 ((K : Int) - k), .int .i64 lc]).run Try.prog w = .ok (.int .i64 j) w := by
    intro w ts t
    rw [run_min_int2]
    exact congrArg (fun x => Result.ok (Value.int .i64 x) w) (by split <;> omega)
  have jw : wrap64 ((K : Int) - (k : Int)) = (K : Int) - (k : Int) := by unfold wrap64; split at hK <;> omega
  have i0 : (la : Int) ≤ 100 := by omega
  have i1 : (lb : Int) ≤ 100 := by omega
  have i2 : (lc : Int) ≤ 100 := by omega
  clear hK hd1 hd2 hd3 hd4 hd5 hd6 hX hzj hY hKt ha hb hc hA hB hC n0 n1 n2 hk hj hlj q0 q1 q2
  go_enter Try.func4, Try.ntmps4
  go_wp2_with fail
  go_at_call 9
  refine (my_new 500 w w (Below.refl _ _) (by decide) (by decide)).mono ?_
  rintro e w1 ⟨rfl, H1⟩
  obtain ⟨b, hb⟩ : ∃ b, w.heap.size = b := ⟨_, rfl⟩
  have HB : Hid (w.heap.size = b) := hb
  rw [hb] at H1
  rw [hb]
  clear hb
  go_wp2_with fail
  go_at_call 11
  refine (my_append b w w1 _ H1 1 a0 la cap0 za (HS.out.1.mine H1) HN.out.1 (HS.out.1.apart (Nat.le_of_eq HB.out)) (by omega) (by decide) _ _ E1.out).mono ?_
  rintro e w2 ⟨rfl, H2⟩
  clear H1
  go_wp2_with fail
  go_at_call 13
  refine (my_sync b w w2 _ H2 (by have := O1.out; omega) _ _ E2.out).mono ?_
  rintro e w3 ⟨rfl, H3⟩
  clear H2
  go_wp2_with fail
  go_at_call 17
  refine (my_arm b w w3 _ H3 4 kp hk1).mono ?_
  rintro e w4 ⟨rfl, H4⟩
  clear H3
  go_wp2_with fail
  go_at_call 11
  refine (my_append b w w4 _ H4 1 a2 lc cap2 zc (HS.out.2.2.mine H4) HN.out.2.2 (HS.out.2.2.apart (Nat.le_of_eq HB.out)) (by omega) (by have := O1.out; show d2.ops ≤ _; omega) _ _ E3.out).mono ?_
  rintro e w5 ⟨rfl, H5⟩
  clear H4
  go_wp2_with fail
  go_at_call 11
  refine (my_append b w w5 _ H5 0 a1 lb cap1 zb (HS.out.2.1.mine H5) HN.out.2.1 (HS.out.2.1.apart (Nat.le_of_eq HB.out)) (by omega) (by have := O1.out; omega) _ _ E4.out).mono ?_
  rintro e w6 ⟨rfl, H6⟩
  clear H5
  go_wp2_with fail
  go_at_call 13
  refine (my_sync b w w6 _ H6 (by have := O1.out; omega) _ _ E5.out).mono ?_
  rintro e w9 ⟨rfl, h9⟩
  have H9 : Hid (Mine w w9 b d5) := h9
  clear h9
  clear H6 E1 E2 E3 E4 E5
  go_wp2
  refine region_owes (L := [Fact.is (.pointer (some ⟨b, 0, none⟩)),
    Fact.sl .u8 k X,
    Fact.is (.string (strOfNums X)),
    Fact.is (.pointer (some ⟨b, 0, none⟩)),
    Fact.sl .u8 lj Y,
    Fact.is (.string (strOfNums Y)),
    Fact.is (.string (strOfNums X)),
    Fact.is (.string (strOfNums Y))])
    (T := [64, 65, 66, 67, 68, 69, 15, 16]) (by kernel_rfl) (by kernel_rfl) rfl ?owes ?_
  case owes =>
    refine .cons (owes_move (.tmp 9) (.inl rfl) fun q u lh => ⟨wants_free rfl, lh.old 9 rfl⟩) ?_
    refine .cons (owes_call 24 Try.func24 (by kernel_rfl) (by kernel_rfl) [.tmp 64, .const (.int .i64 0)] #[23, 3] rfl fun q u lh => ⟨wants_free rfl, by have e64 : q.tmps.getD 64 undef = .pointer (some ⟨b, 0, none⟩) := lh.dep 0 rfl; show Calls Try.prog 24 #[q.tmps.getD 64 undef, (.int .i64 0)] u _; rw [e64]; exact read_fact b u _ _ (H9.out.1.below lh.below) 0 X k R5.out.1 HX.out⟩) ?_
    refine .cons (owes_text_new 27 9 5 65 1 k X rfl rfl rfl rfl rfl Try.underlying27 Try.underlying5 Try.underlying9 fun q u lh => wants_free rfl) ?_
    refine .cons (owes_move (.tmp 9) (.inl rfl) fun q u lh => ⟨wants_free rfl, lh.old 9 rfl⟩) ?_
    refine .cons (owes_call 24 Try.func24 (by kernel_rfl) (by kernel_rfl) [.tmp 67, .const (.int .i64 1)] #[23, 3] rfl fun q u lh => ⟨wants_free rfl, by have e67 : q.tmps.getD 67 undef = .pointer (some ⟨b, 0, none⟩) := lh.dep 3 rfl; show Calls Try.prog 24 #[q.tmps.getD 67 undef, (.int .i64 1)] u _; rw [e67]; exact read_fact b u _ _ (H9.out.1.below lh.below) 1 Y lj R5.out.2 HY.out⟩) ?_
    refine .cons (owes_text_new 27 9 5 68 4 lj Y rfl rfl rfl rfl rfl Try.underlying27 Try.underlying5 Try.underlying9 fun q u lh => wants_free rfl) ?_
    refine .cons (owes_move (.tmp 66) (.inr rfl) fun q u lh => ⟨wants_free rfl, lh.dep 2 rfl⟩) ?_
    refine .cons (owes_move (.tmp 69) (.inr rfl) fun q u lh => ⟨wants_free rfl, lh.dep 5 rfl⟩) ?_
    exact .nil _
  intro q u hb hsz hdf hold hfact
  obtain ⟨a65, c65, v65, s65, l65, m65⟩ : (Fact.sl .u8 k X).1 u (q.tmps.getD 65 undef) := hfact 1 (by decide)
  obtain ⟨a68, c68, v68, s68, l68, m68⟩ : (Fact.sl .u8 lj Y).1 u (q.tmps.getD 68 undef) := hfact 4 (by decide)
  obtain rfl := frame_puts hsz hdf [64, 65, 66, 67, 68, 69, 15, 16] hold [(64, .pointer (some ⟨b, 0, none⟩)), (65, .slice a65 k c65), (66, .string (strOfNums X)), (67, .pointer (some ⟨b, 0, none⟩)), (68, .slice a68 lj c68), (69, .string (strOfNums Y)), (15, .string (strOfNums X)), (16, .string (strOfNums Y))] ⟨hfact 0 (by decide), v65, hfact 2 (by decide), hfact 3 (by decide), v68, hfact 5 (by decide), hfact 6 (by decide), hfact 7 (by decide), trivial⟩ rfl
  clear hsz hdf hold hfact
  have h9 : Mine w u b d5 := H9.out.below hb
  clear hb s65 l65 m65 s68 l68 m68
  simp only [puts, Act.put, List.setIfInBounds_toArray, List.set_cons_zero, List.set_cons_succ]
  go_wp2_with fail
  go_at_call 19
  refine (my_restart b w u _ h9).mono ?_
  rintro e w11 ⟨rfl, h11⟩
  rw [HD6.out] at h11
  have H11 : Hid (Mine w w11 b d6) := h11
  have SX : Hid (Sl .u8 w11 a1 k X) := SX0.out.below h11.2
  have SC : Hid (Sl .u8 w11 a2 j zj) := SC0.out.below h11.2
  have SA : Hid (Sl .u8 w11 a0 la za) := HS.out.1.below h11.2
  clear h9 h11 H9
  go_wp2
  refine region_owes (L := [Fact.is (.int .i64 0),
    Fact.is (.bool true),
    Fact.is (.bool true),
    Fact.is (.int .i64 0),
    Fact.is (.bool true),
    Fact.is (.bool true),
    Fact.is (.bool true),
    Fact.is (.int .i64 11),
    Fact.is (.bool true),
    Fact.is (.bool true),
    Fact.is (.bool true),
    Fact.is (.string (strOfNums X)),
    Fact.is (.slice a1 lb cap1),
    Fact.is (.int .i64 k),
    Fact.is (.slice a1 k cap1),
    Fact.is (.string (strOfNums X)),
    Fact.is (.bool true),
    Fact.is (.bool true),
    Fact.is (.bool true),
    Fact.is (.string (strOfNums Y)),
    Fact.is (.slice a0 la cap0),
    Fact.is (.string (strOfNums za)),
    Fact.is (.slice a2 lc cap2),
    Fact.is (.int .i64 j),
    Fact.is (.slice a2 j cap2),
    Fact.is (.string (strOfNums zj)),
    Fact.is (.string (strOfNums Y)),
    Fact.is (.bool true),
    Fact.is (.bool true),
    Fact.is (.bool true),
    Fact.is (.pointer (some ⟨b, 0, none⟩)),
    Fact.sl .u8 k X,
    Fact.is (.string (strOfNums X)),
    Fact.is (.string (strOfNums X)),
    Fact.is (.bool true),
    Fact.is (.bool true),
    Fact.is (.bool true),
    Fact.is (.pointer (some ⟨b, 0, none⟩)),
    Fact.sl .u8 lj Y,
    Fact.is (.string (strOfNums Y)),
    Fact.is (.string (strOfNums Y)),
    Fact.is (.bool true),
    Fact.is (.bool true),
    Fact.is (.bool true),
    Fact.is (.pointer (some ⟨b, 0, none⟩)),
    Fact.is (.bool false),
    Fact.is (.bool true),
    Fact.is (.bool true),
    Fact.is (.bool true),
    Fact.is (.pointer (some ⟨b, 0, none⟩)),
    Fact.is (.int .i64 0),
    Fact.is (.bool true),
    Fact.is (.bool true),
    Fact.is (.bool true),
    Fact.is (.bool true),
    Fact.is (.bool true),
    Fact.is (.bool true)])
    (T := [72, 73, 74, 75, 76, 77, 78, 79, 80, 81, 82, 83, 84, 85, 86, 87, 88, 89, 90, 91, 92, 93, 94, 95, 96, 97, 98, 99, 100, 101, 102, 103, 104, 105, 106, 107, 108, 109, 110, 111, 112, 113, 114, 115, 116, 117, 118, 119, 120, 121, 122, 123, 124, 125, 126, 127, 8]) (by kernel_rfl) (by kernel_rfl) rfl ?owes ?_
  case owes =>
    refine .cons (owes_move (.tmp 10) (.inl rfl) fun q u lh => ⟨wants_free rfl, lh.old 10 rfl⟩) ?_
    refine .cons (owes_eql 32 32 (.tmp 72) (.const (.int .i64 0)) rfl rfl fun q u lh => ⟨wants_free rfl, .int .i64 0, lh.dep 0 rfl, rfl, eq_int⟩) ?_
    refine .cons (owes_move (.tmp 73) (.inl rfl) fun q u lh => ⟨wants_free rfl, lh.dep 1 rfl⟩) ?_
    refine .cons (owes_move (.tmp 11) (.inl rfl) fun q u lh => ⟨lh.wants1 2 true rfl rfl rfl, lh.old 11 rfl⟩) ?_
    refine .cons (owes_eql 32 32 (.tmp 75) (.const (.int .i64 0)) rfl rfl fun q u lh => ⟨lh.wants1 2 true rfl rfl rfl, .int .i64 0, lh.dep 3 rfl, rfl, eq_int⟩) ?_
    refine .cons (owes_pick (.tmp 74) (.tmp 76) (.const (.bool false)) rfl fun q u lh => ⟨wants_free rfl, true, lh.dep 2 rfl, lh.dep 4 rfl⟩) ?_
    refine .cons (owes_move (.tmp 77) (.inl rfl) fun q u lh => ⟨wants_free rfl, lh.dep 5 rfl⟩) ?_
    refine .cons (owes_move (.tmp 12) (.inl rfl) fun q u lh => ⟨lh.wants1 6 true rfl rfl rfl, lh.old 12 rfl⟩) ?_
    refine .cons (owes_eql 32 32 (.tmp 79) (.const (.int .i64 11)) rfl rfl fun q u lh => ⟨lh.wants1 6 true rfl rfl rfl, .int .i64 11, lh.dep 7 rfl, rfl, eq_int⟩) ?_
    refine .cons (owes_pick (.tmp 78) (.tmp 80) (.const (.bool false)) rfl fun q u lh => ⟨wants_free rfl, true, lh.dep 6 rfl, lh.dep 8 rfl⟩) ?_
    refine .cons (owes_move (.tmp 81) (.inl rfl) fun q u lh => ⟨wants_free rfl, lh.dep 9 rfl⟩) ?_
    refine .cons (owes_move (.tmp 15) (.inl rfl) fun q u lh => ⟨lh.wants1 10 true rfl rfl rfl, lh.old 15 rfl⟩) ?_
    refine .cons (owes_move (.tmp 1) (.inl rfl) fun q u lh => ⟨lh.wants1 10 true rfl rfl rfl, lh.old 1 rfl⟩) ?_
    refine .cons (owes_move (.tmp 13) (.inl rfl) fun q u lh => ⟨lh.wants1 10 true rfl rfl rfl, lh.old 13 rfl⟩) ?_
    refine .cons (owes_value fun q u lh => ⟨lh.wants1 10 true rfl rfl rfl, .slice a1 k cap1, by have e84 : q.tmps.getD 84 undef = .slice a1 lb cap1 := lh.dep 12 rfl; have e85 : q.tmps.getD 85 undef = .int .i64 k := lh.dep 13 rfl; simp [execOp, Act.eval, e84, e85, ik, go_sem], rfl⟩) ?_
    refine .cons (owes_text 27 9 5 86 14 a1 k cap1 X rfl rfl rfl rfl rfl SX.out Try.underlying27 Try.underlying5 Try.underlying9 fun q u lh => lh.wants1 10 true rfl rfl rfl) ?_
    refine .cons (owes_eql 9 9 (.tmp 83) (.tmp 87) rfl rfl fun q u lh => ⟨lh.wants1 10 true rfl rfl rfl, .string (strOfNums X), lh.dep 11 rfl, lh.dep 15 rfl, eq_str⟩) ?_
    refine .cons (owes_pick (.tmp 82) (.tmp 88) (.const (.bool false)) rfl fun q u lh => ⟨wants_free rfl, true, lh.dep 10 rfl, lh.dep 16 rfl⟩) ?_
    refine .cons (owes_move (.tmp 89) (.inl rfl) fun q u lh => ⟨wants_free rfl, lh.dep 17 rfl⟩) ?_
    refine .cons (owes_move (.tmp 16) (.inl rfl) fun q u lh => ⟨lh.wants1 18 true rfl rfl rfl, lh.old 16 rfl⟩) ?_
    refine .cons (owes_move (.tmp 0) (.inl rfl) fun q u lh => ⟨lh.wants1 18 true rfl rfl rfl, lh.old 0 rfl⟩) ?_
    refine .cons (owes_text 27 9 5 92 20 a0 la cap0 za rfl rfl rfl rfl rfl SA.out Try.underlying27 Try.underlying5 Try.underlying9 fun q u lh => lh.wants1 18 true rfl rfl rfl) ?_
    refine .cons (owes_move (.tmp 2) (.inl rfl) fun q u lh => ⟨lh.wants1 18 true rfl rfl rfl, lh.old 2 rfl⟩) ?_
    refine .cons (owes_move (.tmp 14) (.inl rfl) fun q u lh => ⟨lh.wants1 18 true rfl rfl rfl, lh.old 14 rfl⟩) ?_
    refine .cons (owes_value fun q u lh => ⟨lh.wants1 18 true rfl rfl rfl, .slice a2 j cap2, by have e94 : q.tmps.getD 94 undef = .slice a2 lc cap2 := lh.dep 22 rfl; have e95 : q.tmps.getD 95 undef = .int .i64 j := lh.dep 23 rfl; simp [execOp, Act.eval, e94, e95, ij, go_sem], rfl⟩) ?_
    refine .cons (owes_text 27 9 5 96 24 a2 j cap2 zj rfl rfl rfl rfl rfl SC.out Try.underlying27 Try.underlying5 Try.underlying9 fun q u lh => lh.wants1 18 true rfl rfl rfl) ?_
    refine .cons (owes_value fun q u lh => ⟨lh.wants1 18 true rfl rfl rfl, .string (strOfNums Y), by have e93 : q.tmps.getD 93 undef = .string (strOfNums za) := lh.dep 21 rfl; have e97 : q.tmps.getD 97 undef = .string (strOfNums zj) := lh.dep 25 rfl; simp [execOp, Act.eval, e93, e97, HC.out, HZ.out, go_sem], rfl⟩) ?_
    refine .cons (owes_eql 9 9 (.tmp 91) (.tmp 98) rfl rfl fun q u lh => ⟨lh.wants1 18 true rfl rfl rfl, .string (strOfNums Y), lh.dep 19 rfl, lh.dep 26 rfl, eq_str⟩) ?_
    refine .cons (owes_pick (.tmp 90) (.tmp 99) (.const (.bool false)) rfl fun q u lh => ⟨wants_free rfl, true, lh.dep 18 rfl, lh.dep 27 rfl⟩) ?_
    refine .cons (owes_move (.tmp 100) (.inl rfl) fun q u lh => ⟨wants_free rfl, lh.dep 28 rfl⟩) ?_
    refine .cons (owes_move (.tmp 9) (.inl rfl) fun q u lh => ⟨lh.wants1 29 true rfl rfl rfl, lh.old 9 rfl⟩) ?_
    refine .cons (owes_call 24 Try.func24 (by kernel_rfl) (by kernel_rfl) [.tmp 102, .const (.int .i64 0)] #[23, 3] rfl fun q u lh => ⟨lh.wants1 29 true rfl rfl rfl, by have e102 : q.tmps.getD 102 undef = .pointer (some ⟨b, 0, none⟩) := lh.dep 30 rfl; show Calls Try.prog 24 #[q.tmps.getD 102 undef, (.int .i64 0)] u _; rw [e102]; exact read_fact b u _ _ (H11.out.1.below lh.below) 0 X k R6.out.1 HX.out⟩) ?_
    refine .cons (owes_text_new 27 9 5 103 31 k X rfl rfl rfl rfl rfl Try.underlying27 Try.underlying5 Try.underlying9 fun q u lh => lh.wants1 29 true rfl rfl rfl) ?_
    refine .cons (owes_move (.tmp 15) (.inl rfl) fun q u lh => ⟨lh.wants1 29 true rfl rfl rfl, lh.old 15 rfl⟩) ?_
    refine .cons (owes_eql 9 9 (.tmp 104) (.tmp 105) rfl rfl fun q u lh => ⟨lh.wants1 29 true rfl rfl rfl, .string (strOfNums X), lh.dep 32 rfl, lh.dep 33 rfl, eq_str⟩) ?_
    refine .cons (owes_pick (.tmp 101) (.tmp 106) (.const (.bool false)) rfl fun q u lh => ⟨wants_free rfl, true, lh.dep 29 rfl, lh.dep 34 rfl⟩) ?_
    refine .cons (owes_move (.tmp 107) (.inl rfl) fun q u lh => ⟨wants_free rfl, lh.dep 35 rfl⟩) ?_
    refine .cons (owes_move (.tmp 9) (.inl rfl) fun q u lh => ⟨lh.wants1 36 true rfl rfl rfl, lh.old 9 rfl⟩) ?_
    refine .cons (owes_call 24 Try.func24 (by kernel_rfl) (by kernel_rfl) [.tmp 109, .const (.int .i64 1)] #[23, 3] rfl fun q u lh => ⟨lh.wants1 36 true rfl rfl rfl, by have e109 : q.tmps.getD 109 undef = .pointer (some ⟨b, 0, none⟩) := lh.dep 37 rfl; show Calls Try.prog 24 #[q.tmps.getD 109 undef, (.int .i64 1)] u _; rw [e109]; exact read_fact b u _ _ (H11.out.1.below lh.below) 1 Y lj R6.out.2.1 HY.out⟩) ?_
    refine .cons (owes_text_new 27 9 5 110 38 lj Y rfl rfl rfl rfl rfl Try.underlying27 Try.underlying5 Try.underlying9 fun q u lh => lh.wants1 36 true rfl rfl rfl) ?_
    refine .cons (owes_move (.tmp 16) (.inl rfl) fun q u lh => ⟨lh.wants1 36 true rfl rfl rfl, lh.old 16 rfl⟩) ?_
    refine .cons (owes_eql 9 9 (.tmp 111) (.tmp 112) rfl rfl fun q u lh => ⟨lh.wants1 36 true rfl rfl rfl, .string (strOfNums Y), lh.dep 39 rfl, lh.dep 40 rfl, eq_str⟩) ?_
    refine .cons (owes_pick (.tmp 108) (.tmp 113) (.const (.bool false)) rfl fun q u lh => ⟨wants_free rfl, true, lh.dep 36 rfl, lh.dep 41 rfl⟩) ?_
    refine .cons (owes_move (.tmp 114) (.inl rfl) fun q u lh => ⟨wants_free rfl, lh.dep 42 rfl⟩) ?_
    refine .cons (owes_move (.tmp 9) (.inl rfl) fun q u lh => ⟨lh.wants1 43 true rfl rfl rfl, lh.old 9 rfl⟩) ?_
    refine .cons (owes_call 21 Try.func21 (by kernel_rfl) (by kernel_rfl) [.tmp 116] #[23] rfl fun q u lh => ⟨lh.wants1 43 true rfl rfl rfl, by have e116 : q.tmps.getD 116 undef = .pointer (some ⟨b, 0, none⟩) := lh.dep 44 rfl; show Calls Try.prog 21 #[q.tmps.getD 116 undef] u _; rw [e116]; exact down_fact b u _ _ (H11.out.1.below lh.below) false R6.out.2.2.1⟩) ?_
    refine .cons (owes_value fun q u lh => ⟨lh.wants1 43 true rfl rfl rfl, .bool true, by have e117 : q.tmps.getD 117 undef = .bool false := lh.dep 45 rfl; simp [execOp, Act.eval, e117, go_sem], rfl⟩) ?_
    refine .cons (owes_pick (.tmp 115) (.tmp 118) (.const (.bool false)) rfl fun q u lh => ⟨wants_free rfl, true, lh.dep 43 rfl, lh.dep 46 rfl⟩) ?_
    refine .cons (owes_move (.tmp 119) (.inl rfl) fun q u lh => ⟨wants_free rfl, lh.dep 47 rfl⟩) ?_
    refine .cons (owes_move (.tmp 9) (.inl rfl) fun q u lh => ⟨lh.wants1 48 true rfl rfl rfl, lh.old 9 rfl⟩) ?_
    refine .cons (owes_call 22 Try.func22 (by kernel_rfl) (by kernel_rfl) [.tmp 121] #[23] rfl fun q u lh => ⟨lh.wants1 48 true rfl rfl rfl, by have e121 : q.tmps.getD 121 undef = .pointer (some ⟨b, 0, none⟩) := lh.dep 49 rfl; show Calls Try.prog 22 #[q.tmps.getD 121 undef] u _; rw [e121]; exact ops_fact b u _ _ (H11.out.1.below lh.below) 0 (by rw [R6.out.2.2.2]; rfl)⟩) ?_
    refine .cons (owes_eql 3 3 (.tmp 122) (.const (.int .i64 0)) rfl rfl fun q u lh => ⟨lh.wants1 48 true rfl rfl rfl, .int .i64 0, lh.dep 50 rfl, rfl, eq_num⟩) ?_
    refine .cons (owes_pick (.tmp 120) (.tmp 123) (.const (.bool false)) rfl fun q u lh => ⟨wants_free rfl, true, lh.dep 48 rfl, lh.dep 51 rfl⟩) ?_
    refine .cons (owes_move (.tmp 124) (.inl rfl) fun q u lh => ⟨wants_free rfl, lh.dep 52 rfl⟩) ?_
    refine .cons (owes_call 26 Try.func26 (by kernel_rfl) (by kernel_rfl) [] #[] rfl fun q u lh => ⟨lh.wants1 53 true rfl rfl rfl, by show Calls Try.prog 26 #[] u _; exact known_fact u⟩) ?_
    refine .cons (owes_pick (.tmp 125) (.tmp 126) (.const (.bool false)) rfl fun q u lh => ⟨wants_free rfl, true, lh.dep 53 rfl, lh.dep 54 rfl⟩) ?_
    refine .cons (owes_move (.tmp 127) (.inr rfl) fun q u lh => ⟨wants_free rfl, lh.dep 55 rfl⟩) ?_
    exact .nil _
  intro q u hb hsz hdf hold hfact
  have h4 : q.tmps.getD 8 undef = .bool true := hfact 56 (by decide)
  go_wp2
  refine bodyPost_ret (results_tmp rfl _ _ _) hdf ⟨?_, H11.out.2.trans (hb.mono H11.out.2.size)⟩
  rw [h4]

theorem Walk.tapeKeeps (a0 : Option Addr) (len0 cap0 : Nat) (z0 : List Int) (a1 : Option Addr) (len1 cap1 : Nat) (z1 : List Int) (a2 : Option Addr) (len2 cap2 : Nat) (z2 : List Int) (a3 : Int) (w : World)
    (w0 : Walk.IsRow .u8 w a0 len0 cap0 z0) (w1 : Walk.IsRow .u8 w a1 len1 cap1 z1) (w2 : Walk.IsRow .u8 w a2 len2 cap2 z2) (w3 : (Lit.int .i64 a3).wf = true) :
    Calls Try.prog 4 #[.slice a0 len0 cap0, .slice a1 len1 cap1, .slice a2 len2 cap2, .int .i64 a3] w fun e w' => e = .returned (.bool true) ∧ Below w.heap.size w w' := by
  obtain ⟨hA, hc0, hm0⟩ := w0.sl Walk.wf_u8'
  obtain ⟨hB, hc1, hm1⟩ := w1.sl Walk.wf_u8'
  obtain ⟨hC, hc2, hm2⟩ := w2.sl Walk.wf_u8'
  have b3 := wf_i64 (Walk.wf_i64' _ w3)
  by_cases h1 : (100 : Int) < len0
  · go_enter Try.func4, Try.ntmps4
    go_wp2
    go_ret
    exact ⟨rfl, Below.refl _ _⟩
  by_cases h2 : (100 : Int) < len1
  · go_enter Try.func4, Try.ntmps4
    go_wp2
    go_ret
    exact ⟨rfl, Below.refl _ _⟩
  by_cases h3 : (100 : Int) < len2
  · go_enter Try.func4, Try.ntmps4
    go_wp2
    go_ret
    exact ⟨rfl, Below.refl _ _⟩
  exact keeps_main a0 len0 cap0 _ a1 len1 cap1 _ a2 len2 cap2 _ a3 w hA hB hC w0.none w1.none w2.none hc0 hc1 hc2 hm1 hm2 (by omega) (by omega) (by omega) b3.2 a3.toNat _ _ _ (by split <;> omega) rfl rfl rfl

end Go.Proofs.Ytcclpmjoofaepaa
