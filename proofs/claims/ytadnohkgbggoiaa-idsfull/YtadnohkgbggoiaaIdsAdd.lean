/-
  ids.Add.
-/
import Derived.Test.YtadnohkgbggoiaaIdsHas
import Derived.Test.YtadnohkgbggoiaaCloneI
import Derived.Test.YtadnohkgbggoiaaConcatI
import Derived.Test.YtadnohkgbggoiaaGoodFacts
namespace Go.Proofs.Ytadnohkgbggoiaa
open Go.RowKit
set_option linter.unusedVariables false
set_option linter.unusedSimpArgs false

/-- What Add leaves. -/
def AddEnd (w : World) (zs : List Int) (x : Int) (e : Ending) (w' : World) : Prop := ∃ a c, e = .returned (.tuple #[.slice a (addL zs x).length c, .int .i64 (addE zs x)]) ∧ Good w' a (addL zs x).length c (addL zs x) ∧ Below w.heap.size w w'

set_option maxHeartbeats 4000000 in
set_option maxRecDepth 100000 in
theorem idsAdd_has (a : Option Addr) (n c : Nat) (zs : List Int) (x : Int) (w : World) (h : Good w a n c zs) (hm : n ≤ 1000000) (hu : Up zs) (hh : hasB zs x = true) :
    Calls Try.prog 9 #[.slice a n c, .int .i64 x] w (AddEnd w zs x) := by
  have S := search_any a n c zs x w h.sl hm hu
  have C := clone_any a n c zs w h hm
  rw [hh] at S
  unfold AddEnd
  rw [(add_has hh).1, (add_has hh).2]
  clear h hu hh
  go_enter Try.func9, Try.ntmps9
  go_wp2_with fail
  go_at_call 14
  refine S.mono ?_
  rintro e w' ⟨rfl, rfl⟩
  go_wp2_with fail
  go_at_call 15
  refine C.mono ?_
  rintro e w' ⟨a', c', rfl, g, hb⟩
  go_wp2
  go_ret2
  exact ⟨a', c', rfl, g, hb⟩

set_option maxHeartbeats 4000000 in
set_option maxRecDepth 100000 in
theorem idsAdd_full (a : Option Addr) (n c : Nat) (zs : List Int) (x : Int) (w : World) (h : Good w a n c zs) (hm : n ≤ 1000000) (hu : Up zs) (hh : hasB zs x = false) (hf : 200 ≤ zs.length) :
    Calls Try.prog 9 #[.slice a n c, .int .i64 x] w (AddEnd w zs x) := by
  have S := search_any a n c zs x w h.sl hm hu
  have C := clone_any a n c zs w h hm
  have hn := h.sl.1
  have hf' : (200 : Int) ≤ (n : Int) := by omega
  rw [hh] at S
  unfold AddEnd
  rw [(add_full hh hf).1, (add_full hh hf).2]
  clear h hu hh hn hf
  go_enter Try.func9, Try.ntmps9
  go_wp2_with fail
  go_at_call 14
  refine S.mono ?_
  rintro e w' ⟨rfl, rfl⟩
  go_wp2_with fail
  go_at_call 15
  refine C.mono ?_
  rintro e w' ⟨a', c', rfl, g, hb⟩
  go_wp2
  go_ret2
  exact ⟨a', c', rfl, g, hb⟩

set_option maxHeartbeats 4000000 in
set_option maxRecDepth 100000 in
theorem idsAdd_ins (a : Option Addr) (n c : Nat) (zs : List Int) (x : Int) (w : World) (h : Good w a n c zs) (hx : IntKind.i64.wrap x = x) (hm : n ≤ 1000000) (hu : Up zs) (hh : hasB zs x = false) (hf : zs.length < 200) :
    Calls Try.prog 9 #[.slice a n c, .int .i64 x] w (AddEnd w zs x) := by
  have S := search_any a n c zs x w h.sl hm hu
  have hn := h.sl.1
  have hc := h.cap
  have hmx := h.max
  have hk := cut_le zs x
  obtain ⟨k, hkk⟩ : ∃ k, cutN zs x = k := ⟨_, rfl⟩
  rw [hkk] at S hk
  have HK : Hid (cutN zs x = k) := hkk
  have hf' : (n : Int) < (200 : Int) := by omega
  have k0 : (0 : Int) ≤ (k : Int) := by omega
  have k1 : (k : Int) ≤ (n : Int) := by omega
  have k2 : (k : Int) ≤ (c : Int) := by omega
  have k3 : (n : Int) ≤ (c : Int) := by omega
  rw [hh] at S
  unfold AddEnd
  rw [(add_ins hh hf).1, (add_ins hh hf).2]
  clear hu hh hf hkk
  have H : Hid (Good w a n c zs) := h
  have HX : Hid (IntKind.i64.wrap x = x) := hx
  have HE : Hid (zs.take k ++ ([x] ++ zs.drop k) = ins zs x) := by
    show _ = _
    unfold ins
    rw [HK.out]
    rfl
  have HKn : Hid (k ≤ n) := by show k ≤ n; omega
  have HL : Hid ((zs.take k).length + [x].length + (zs.drop k).length ≤ 1000000) := by show _ ≤ _; simp; omega
  clear h hx hn hk
  go_enter Try.func9, Try.ntmps9
  go_wp2_with fail
  go_at_call 14
  refine S.mono ?_
  rintro e w' ⟨rfl, rfl⟩
  clear S
  go_wp2_with fail
  refine region_owes (L := [Fact.is (.slice a n c),
    Fact.is (.int .i64 k),
    Fact.is (.slice a k c),
    Fact.is (.int .i64 x),
    Fact.good [x],
    Fact.is (.slice a n c),
    Fact.is (.int .i64 k),
    Fact.is (.slice (cutK a c k) (n - k) (c - k)),
    Fact.three (zs.take k) [x] (zs.drop k),
    Fact.good (ins zs x),
    Fact.good (ins zs x),
    Fact.is (.int .i64 0)])
    (T := [22, 23, 24, 25, 26, 27, 28, 29, 30, 31, 4, 5]) (by kernel_rfl) (by kernel_rfl) rfl ?owes ?_
  case owes =>
    refine .cons (owes_move (.tmp 0) (.inl rfl) fun q u lh => ⟨wants_free rfl, lh.old 0 rfl⟩) ?_
    refine .cons (owes_move (.tmp 6) (.inl rfl) fun q u lh => ⟨wants_free rfl, lh.old 6 rfl⟩) ?_
    refine .cons (owes_value fun q u lh => ⟨wants_free rfl, .slice a k c, by have e22 : q.tmps.getD 22 undef = .slice a n c := lh.dep 0 rfl; have e23 : q.tmps.getD 23 undef = .int .i64 k := lh.dep 1 rfl; have z1 : k ≤ c := (by omega); have z2 : ¬ c < k := (by omega); simp [execOp, Act.eval, e22, e23, z1, z2, go_sem], rfl⟩) ?_
    refine .cons (owes_move (.tmp 1) (.inl rfl) fun q u lh => ⟨wants_free rfl, lh.old 1 rfl⟩) ?_
    refine .cons (owes_make fun q u lh => ⟨wants_free rfl, .slice (some ⟨u.heap.size, 0, none⟩) 1 1, u.alloc (.cells #[.int .i64 x] 2), by have e25 : q.tmps[25]?.getD undef = .int .i64 x := (Array.getD_eq_getD_getElem? ..).symm.trans (lh.dep 3 rfl); simp [execOp, Act.eval, e25, go_sem], box_below _ _, ⟨_, _, rfl, Good.lit1 u x HX.out⟩⟩) ?_
    refine .cons (owes_move (.tmp 0) (.inl rfl) fun q u lh => ⟨wants_free rfl, lh.old 0 rfl⟩) ?_
    refine .cons (owes_move (.tmp 6) (.inl rfl) fun q u lh => ⟨wants_free rfl, lh.old 6 rfl⟩) ?_
    refine .cons (owes_value fun q u lh => ⟨wants_free rfl, .slice (cutK a c k) (n - k) (c - k), by have e27 : q.tmps.getD 27 undef = .slice a n c := lh.dep 5 rfl; have e28 : q.tmps.getD 28 undef = .int .i64 k := lh.dep 6 rfl; have z1 : k ≤ n := (by omega); simp [execOp, Act.eval, e27, e28, z1, cutK, go_sem], rfl⟩) ?_
    refine .cons (owes_make fun q u lh => by obtain ⟨a2, c2, e26, g2⟩ := lh.dep 4 rfl; have e24 : q.tmps[24]?.getD undef = .slice a k c := (Array.getD_eq_getD_getElem? ..).symm.trans (lh.dep 2 rfl); have e29 : q.tmps[29]?.getD undef = .slice (cutK a c k) (n - k) (c - k) := (Array.getD_eq_getD_getElem? ..).symm.trans (lh.dep 7 rfl); have e26 : q.tmps[26]?.getD undef = .slice a2 1 c2 := (Array.getD_eq_getD_getElem? ..).symm.trans e26; exact ⟨wants_free rfl, .slice (some ⟨u.heap.size, 0, none⟩) 3 3, u.alloc (.cells #[.slice a k c, .slice a2 1 c2, .slice (cutK a c k) (n - k) (c - k)] 22), by simp [execOp, Act.eval, e24, e26, e29, go_sem], box_below _ _, ⟨_, rfl, Three.new ((H.out.below lh.below).take k HKn.out) g2 ((H.out.below lh.below).from k HKn.out) _⟩⟩) ?_
    refine .cons (owes_call 16 Try.func16 (by kernel_rfl) (by kernel_rfl) [.tmp 30] #[40] rfl fun q u lh => ⟨wants_free rfl, by obtain ⟨b, e30, th⟩ := lh.dep 8 rfl; have e30 : q.tmps.getD 30 undef = .slice (some ⟨b, 0, none⟩) 3 3 := e30; show Calls Try.prog 16 #[q.tmps.getD 30 undef] u _; rw [e30, ← HE.out]; exact made_fact (concat_three b 3 (zs.take k) [x] (zs.drop k) u th (by simp; omega) HL.out)⟩) ?_
    refine .cons (owes_move (.tmp 31) (.inr rfl) fun q u lh => ⟨wants_free rfl, lh.dep 9 rfl⟩) ?_
    refine .cons (owes_value fun q u lh => ⟨wants_free rfl, .int .i64 0, by simp [execOp, Act.eval, go_sem], rfl⟩) ?_
    exact .nil _
  intro q u hb hsz hdf hold hfact
  obtain ⟨v26, e26⟩ : ∃ v, q.tmps.getD 26 undef = v := ⟨_, rfl⟩
  have f26 : (Fact.good [x]).1 u v26 := by rw [← e26]; exact hfact 4 (by decide)
  obtain ⟨v30, e30⟩ : ∃ v, q.tmps.getD 30 undef = v := ⟨_, rfl⟩
  have f30 : (Fact.three (zs.take k) [x] (zs.drop k)).1 u v30 := by rw [← e30]; exact hfact 8 (by decide)
  obtain ⟨v31, e31⟩ : ∃ v, q.tmps.getD 31 undef = v := ⟨_, rfl⟩
  have f31 : (Fact.good (ins zs x)).1 u v31 := by rw [← e31]; exact hfact 9 (by decide)
  obtain ⟨a4, c4, e4, g4⟩ : (Fact.good (ins zs x)).1 u (q.tmps.getD 4 undef) := hfact 10 (by decide)
  obtain rfl := frame_puts hsz hdf [22, 23, 24, 25, 26, 27, 28, 29, 30, 31, 4, 5] hold [(22, Value.slice a n c), (23, Value.int .i64 k), (24, Value.slice a k c), (25, Value.int .i64 x), (26, v26), (27, Value.slice a n c), (28, Value.int .i64 k), (29, Value.slice (cutK a c k) (n - k) (c - k)), (30, v30), (31, v31), (4, Value.slice a4 (ins zs x).length c4), (5, Value.int .i64 0)] ⟨hfact 0 (by decide), hfact 1 (by decide), hfact 2 (by decide), hfact 3 (by decide), e26, hfact 5 (by decide), hfact 6 (by decide), hfact 7 (by decide), e30, e31, e4, hfact 11 (by decide), trivial⟩ rfl
  clear hsz hdf hold hfact
  go_wp2
  simp only [puts, Act.put, List.setIfInBounds_toArray, List.set_cons_zero, List.set_cons_succ]
  go_ret2
  exact ⟨a4, c4, rfl, g4, hb⟩

theorem idsAdd_any (a : Option Addr) (n c : Nat) (zs : List Int) (x : Int) (w : World) (h : Good w a n c zs) (hx : IntKind.i64.wrap x = x) (hm : n ≤ 1000000) (hu : Up zs) :
    Calls Try.prog 9 #[.slice a n c, .int .i64 x] w (AddEnd w zs x) := by
  cases hh : hasB zs x with
  | true => exact idsAdd_has a n c zs x w h hm hu hh
  | false =>
    by_cases hf : zs.length < 200
    · exact idsAdd_ins a n c zs x w h hx hm hu hh hf
    · exact idsAdd_full a n c zs x w h hm hu hh (by omega)
end Go.Proofs.Ytadnohkgbggoiaa
