/-
  giroref12.Add.
-/
import Derived.Test.YtadnohkgbggoiaaIdsHas
import Derived.Test.YtadnohkgbggoiaaIdsAdd
import Derived.Test.YtadnohkgbggoiaaStepSl
namespace Go.Proofs.Ytadnohkgbggoiaa
open Go.RowKit
set_option linter.unusedVariables false
set_option linter.unusedSimpArgs false

theorem sl_grown {k : IntKind} {w w' : World} {g : Nat} {o : Option Nat} {n : Nat} {zs : List Int} (h : Sl k w (some ⟨g, 0, none⟩) n zs) (hg : w.grownBy w' o) (hne : some g ≠ o) (hlt : g < w.heap.size) : Sl k w' (some ⟨g, 0, none⟩) n zs := by
  refine ⟨h.1, h.2.1, ?_⟩
  rcases h.2.2 with h0 | ⟨b, off, ha, hc⟩
  · exact .inl h0
  · simp at ha
    obtain ⟨rfl, rfl⟩ := ha
    refine .inr ⟨g, 0, rfl, fun i hi => ?_⟩
    have := hg.block g hlt hne
    rw [← hc i hi]
    unfold World.cell?
    rw [this]

theorem ref_ins {w : World} {B k n : Nat} {zs : List Int} {x : Int} {v : Value} (hk : cutN zs x = k) (hkn : k ≤ zs.length) (hn : n = zs.length) (hwf : ∀ z ∈ zs, IntKind.i64.wrap z = z) (hx : IntKind.i64.wrap x = x)
    (h : w.ownsRow B 2 1 v (k + 1 + (n - k)) (((zs.take k).map (Value.int .i64) ++ [x].map (Value.int .i64)) ++ (zs.drop k).map (Value.int .i64))) : ∃ a c, v = .slice a (ins zs x).length c ∧ Good w a (ins zs x).length c (ins zs x) := by
  have e : (ins zs x).map (Value.int .i64) = ((zs.take k).map (Value.int .i64) ++ [x].map (Value.int .i64)) ++ (zs.drop k).map (Value.int .i64) := by
    unfold ins
    rw [hk]
    simp
  rw [← e] at h
  refine Good.own h fun z hz => ?_
  rcases (ins_mem zs x z).1 hz with rfl | hz
  · exact hx
  · exact hwf z hz

set_option maxHeartbeats 4000000 in
theorem refAdd_no (a : Option Addr) (n c : Nat) (zs : List Int) (x : Int) (w : World) (h : Good w a n c zs) (hm : n ≤ 1000000) (hh : hasB zs x = true ∨ 200 ≤ zs.length) :
    Calls Try.prog 10 #[.slice a n c, .int .i64 x] w (AddEnd w zs x) := by
  have S := refHas_any a n c zs x w h.sl (by omega)
  have hn := h.sl.1
  unfold AddEnd
  cases hq : hasB zs x with
  | true =>
    rw [(add_has hq).1, (add_has hq).2, ← hn]
    rw [hq] at S
    clear hq hh hn
    go_enter Try.func10, Try.ntmps10
    go_wp2_with fail
    go_at_call 13
    refine S.mono ?_
    rintro e w' ⟨rfl, rfl⟩
    go_wp2
    go_ret2
    exact ⟨a, c, rfl, h, Below.refl _ _⟩
  | false =>
    have hf : 200 ≤ zs.length := by
      rcases hh with hh | hh
      · rw [hq] at hh; cases hh
      · exact hh
    have hf' : (200 : Int) ≤ (n : Int) := by omega
    rw [(add_full hq hf).1, (add_full hq hf).2, ← hn]
    rw [hq] at S
    clear hq hh hn hf
    go_enter Try.func10, Try.ntmps10
    go_wp2_with fail
    go_at_call 13
    refine S.mono ?_
    rintro e w' ⟨rfl, rfl⟩
    go_wp2
    go_ret2
    exact ⟨a, c, rfl, h, Below.refl _ _⟩

set_option maxHeartbeats 4000000 in
set_option maxRecDepth 100000 in
theorem refAdd_ins (a : Option Addr) (n c : Nat) (zs : List Int) (x : Int) (w : World) (h : Good w a n c zs) (hx : IntKind.i64.wrap x = x) (hm : n ≤ 1000000) (hh : hasB zs x = false) (hf : zs.length < 200) :
    Calls Try.prog 10 #[.slice a n c, .int .i64 x] w (AddEnd w zs x) := by
  obtain ⟨i0, hi, hz0, hz1, hz2⟩ := info_parts infoI64
  have S := refHas_any a n c zs x w h.sl (by omega)
  have hn := h.sl.1
  have hc := h.cap
  have hmx := h.max
  have hf' : (n : Int) < (200 : Int) := by omega
  have k3 : (n : Int) ≤ (c : Int) := by omega
  rw [hh] at S
  unfold AddEnd
  rw [(add_ins hh hf).1, (add_ins hh hf).2]
  have H : Hid (Good w a n c zs) := h
  have HX : Hid (IntKind.i64.wrap x = x) := hx
  have HN : Hid (n = zs.length) := hn
  have HC : Hid (∀ i, i < n → ∃ b off, a = some ⟨b, off, none⟩ ∧ w.cell? ⟨b, off + i, none⟩ = some (.int .i64 (zs.getD i 0))) := by
    intro i hi
    rcases h.sl.2.2 with h0 | ⟨b, off, ha, hc⟩
    · rw [h0] at hn; simp at hn; omega
    · exact ⟨b, off, ha, hc i (by omega)⟩
  clear h hx hn hh hf
  go_enter Try.func10, Try.ntmps10
  go_wp2_with fail
  go_at_call 13
  refine S.mono ?_
  rintro e w' ⟨rfl, rfl⟩
  clear S
  go_wp2
  go_loop [6] (fun i => ∃ k : Nat, k ≤ n ∧ i = .int .i64 k ∧ Hid (∀ j, j < k → zs.getD j 0 < x)) (fun i => n - (intOf i).toNat)
  case atStart => exact ⟨0, by omega, rfl, fun j hj => by omega⟩
  case round =>
    obtain ⟨k, hk, rfl, HP⟩ := hrel
    by_cases hlt : k < n
    · obtain ⟨b, off, rfl, c0⟩ := HC.out k hlt
      obtain ⟨y, hy⟩ : ∃ y, zs.getD k 0 = y := ⟨_, rfl⟩
      rw [hy] at c0
      have HY : Hid (zs.getD k 0 = y) := hy
      have i1 : (k : Int) < (n : Int) := by omega
      clear hy HC
      by_cases hyx : y < x
      · go_wp2
        go_round
        case rel =>
          refine ⟨k + 1, by omega, by go_num, fun j hj => ?_⟩
          by_cases hjk : j < k
          · exact HP.out j hjk
          · obtain rfl : j = k := by omega
            rw [HY.out]
            exact hyx
        case measure => simp [intOf]; omega
      · have HK : Hid (cutN zs x = k) := cut_of zs x k (by have := HN.out; omega) HP.out (fun _ => by rw [HY.out]; omega)
        go_wp2
        have z0 : (0 : Int) ≤ (k : Int) := by omega
        have z1 : (k : Int) ≤ (n : Int) := by omega
        have z2 : (k : Int) ≤ (c : Int) := by omega
        have SA : Hid (∀ u, Below w'.heap.size w' u → Sl .i64 u (some ⟨b, off, none⟩) k (zs.take k)) := fun u hu => ((H.out.below hu).take k hk).sl
        have EK : cutK (some ⟨b, off, none⟩) c k = (if c = k then some ⟨b, off, none⟩ else some ⟨b, off + k, none⟩) := by simp [cutK, Addr.add_flat]
        have SB : Hid (∀ u, Below w'.heap.size w' u → Sl .i64 u (if c = k then some ⟨b, off, none⟩ else some ⟨b, off + k, none⟩) (n - k) (zs.drop k)) := fun u hu => by have := ((H.out.below hu).from k hk).sl; rw [EK] at this; exact this
        have NA : Hid ((some ⟨b, off, none⟩ : Option Addr) = none → c = 0) := H.out.nil0
        have NB : Hid (((if c = k then some ⟨b, off, none⟩ else some ⟨b, off + k, none⟩) : Option Addr) = none → c - k = 0) := by have := (H.out.from k hk).nil0; rw [EK] at this; exact this
        clear EK
        have HW : Hid (∀ z ∈ [x], IntKind.i64.wrap z = z) := by intro z hz; simp at hz; rw [hz]; exact HX.out
        have R : Hid (∀ v u, u.ownsRow w'.heap.size 2 1 v (k + 1 + (n - k)) (((zs.take k).map (Value.int .i64) ++ [x].map (Value.int .i64)) ++ (zs.drop k).map (Value.int .i64)) → ∃ a c, v = .slice a (ins zs x).length c ∧ Good u a (ins zs x).length c (ins zs x)) := fun v u ho => ref_ins HK.out (by rw [← HN.out]; exact hk) HN.out H.out.sl.2.1 HX.out ho
        have hsz : w'.heap.size ≤ w'.heap.size := Nat.le_refl _
        go_region_law (first
          | (refine step_append_sl (by rfl) _ _ 22 (by rfl) w'.heap.size 2 i0 _ 8 Try.underlying22 hi hz0 hz1 hz2 (by rfl) _ 0 [] (by rfl) (lit0_own (g := w'.heap.size) (heap_alloc_new _ _) hsz) .i64 (some ⟨b, off, none⟩) k c (zs.take k) (by rfl) (SA.out _ (below1 _ _ _)) NA.out (by unfold maxLen; omega) (by omega) (by simp) ?_
             intro v2 w2 o2 g2
             have O2 : w2.ownsRow w'.heap.size 2 1 v2 k ((zs.take k).map (Value.int .i64)) := by simpa using o2
             have B2 : Below w'.heap.size w' w2 := (below1 _ _ _).grown g2 (by simp) (fun j hj => by simp [Value.ownBlock] at hj; omega)
             clear o2 g2)
          | (refine step_append_sl (by rfl) _ _ 22 (by rfl) w'.heap.size 2 i0 _ 8 Try.underlying22 hi hz0 hz1 hz2 (by rfl) _ 0 [] (by rfl) (lit0_own (g := w'.heap.size) ((Below.heap_alloc _ _ _ (by simp)).trans (heap_alloc_new _ _)) hsz) .i64 (some ⟨b, off, none⟩) k c (zs.take k) (by rfl) (SA.out _ (below2 _ _ _ _)) NA.out (by unfold maxLen; omega) (by omega) (by simp; omega) ?_
             intro v2 w2 o2 g2
             have O2 : w2.ownsRow w'.heap.size 2 1 v2 k ((zs.take k).map (Value.int .i64)) := by simpa using o2
             have B2 : Below w'.heap.size w' w2 := (below2 _ _ _ _).grown g2 (by simp; omega) (fun j hj => by simp [Value.ownBlock] at hj; omega)
             have PL : Sl .i64 w2 (some ⟨w'.heap.size + 1, 0, none⟩) 1 [x] := sl_grown (by have := Sl.new .i64 ((w'.drewN 1).alloc (.cells #[] 2)) 2 (0, 0) [x] HW.out; rw [size_alloc] at this; exact this) g2 (by simp [Value.ownBlock]) (by simp)
             clear o2 g2)
          | (refine step_append_sl (by rfl) _ _ 22 (by rfl) w'.heap.size 2 i0 _ 8 Try.underlying22 hi hz0 hz1 hz2 (by rfl) _ 0 [] (by rfl) (lit0_own (g := w'.heap.size + 1) (by have := heap_alloc_new ((w'.drewN 1).alloc (.cells #[.int .i64 x] 2)) (.cells #[] 2); rw [size_alloc] at this; exact this) (by omega)) .i64 (some ⟨b, off, none⟩) k c (zs.take k) (by rfl) (SA.out _ (below2 _ _ _ _)) NA.out (by unfold maxLen; omega) (by omega) (by simp; omega) ?_
             intro v2 w2 o2 g2
             have O2 : w2.ownsRow w'.heap.size 2 1 v2 k ((zs.take k).map (Value.int .i64)) := by simpa using o2
             have B2 : Below w'.heap.size w' w2 := (below2 _ _ _ _).grown g2 (by simp; omega) (fun j hj => by simp [Value.ownBlock] at hj; omega)
             have PL : Sl .i64 w2 (some ⟨w'.heap.size, 0, none⟩) 1 [x] := sl_grown ((Sl.new .i64 (w'.drewN 1) 2 (0, 0) [x] HW.out).alloc _) g2 (by simp [Value.ownBlock]) (by simp; omega)
             clear o2 g2)
          | (refine step_append_sl (by rfl) _ _ 22 (by rfl) w'.heap.size 2 i0 _ 8 Try.underlying22 hi hz0 hz1 hz2 (by rfl) v2 k ((zs.take k).map (Value.int .i64)) (by rfl) (own_below O2 (box_below _ _)) .i64 (some ⟨w2.heap.size, 0, none⟩) 1 1 [x] (by rfl) (Sl.new .i64 w2 2 (0, 0) [x] HW.out) (fun h => by cases h) (by unfold maxLen; omega) (by omega) (B2.alloc B2.size _).size ?_
             intro v3 w3 o3 g3
             have O3 : w3.ownsRow w'.heap.size 2 1 v3 (k + 1) ((zs.take k).map (Value.int .i64) ++ [x].map (Value.int .i64)) := o3
             have B3 : Below w'.heap.size w' w3 := (B2.alloc B2.size _).grown g3 (B2.alloc B2.size _).size (fun j hj => (O2.lt j hj).1)
             clear o3 g3)
          | (refine step_append_sl (by rfl) _ _ 22 (by rfl) w'.heap.size 2 i0 _ 8 Try.underlying22 hi hz0 hz1 hz2 (by rfl) v2 k ((zs.take k).map (Value.int .i64)) (by rfl) O2 .i64 _ 1 1 [x] (by rfl) PL (fun h => by cases h) (by unfold maxLen; omega) (by omega) B2.size ?_
             intro v3 w3 o3 g3
             have O3 : w3.ownsRow w'.heap.size 2 1 v3 (k + 1) ((zs.take k).map (Value.int .i64) ++ [x].map (Value.int .i64)) := o3
             have B3 : Below w'.heap.size w' w3 := B2.grown g3 B2.size (fun j hj => (O2.lt j hj).1)
             clear o3 g3)
          | (refine step_append_sl (by rfl) _ _ 22 (by rfl) w'.heap.size 2 i0 _ 8 Try.underlying22 hi hz0 hz1 hz2 (by rfl) v3 (k + 1) ((zs.take k).map (Value.int .i64) ++ [x].map (Value.int .i64)) (by rfl) O3 .i64 (if c = k then some ⟨b, off, none⟩ else some ⟨b, off + k, none⟩) (n - k) (c - k) (zs.drop k) (by rfl) (SB.out _ B3) NB.out (by unfold maxLen; omega) (by omega) B3.size ?_
             intro v4 w4 o4 g4
             have B4 : Below w'.heap.size w' w4 := B3.grown g4 B3.size (fun j hj => (O3.lt j hj).1)
             have FR := R.out v4 w4 o4
             obtain ⟨a4, c4, hv4, G4⟩ := FR
             subst hv4
             clear o4 g4)
          | fail)
        all_goals
          clear O3 B3 O2 B2
          go_wp2
          all_goals
            go_ret2
            exact ⟨a4, c4, rfl, G4, B4⟩
    · have i1 : (n : Int) ≤ (k : Int) := by omega
      have HK : Hid (cutN zs x = k) := cut_of zs x k (by have := HN.out; omega) HP.out (fun h => by have := HN.out; omega)
      go_wp2
      have z0 : (0 : Int) ≤ (k : Int) := by omega
      have z1 : (k : Int) ≤ (n : Int) := by omega
      have z2 : (k : Int) ≤ (c : Int) := by omega
      have SA : Hid (∀ u, Below w'.heap.size w' u → Sl .i64 u (a) k (zs.take k)) := fun u hu => ((H.out.below hu).take k hk).sl
      have SB : Hid (∀ u, Below w'.heap.size w' u → Sl .i64 u (cutK (a) c k) (n - k) (zs.drop k)) := fun u hu => ((H.out.below hu).from k hk).sl
      have NA : Hid ((a : Option Addr) = none → c = 0) := H.out.nil0
      have NB : Hid (cutK (a) c k = none → c - k = 0) := (H.out.from k hk).nil0
      have HW : Hid (∀ z ∈ [x], IntKind.i64.wrap z = z) := by intro z hz; simp at hz; rw [hz]; exact HX.out
      have R : Hid (∀ v u, u.ownsRow w'.heap.size 2 1 v (k + 1 + (n - k)) (((zs.take k).map (Value.int .i64) ++ [x].map (Value.int .i64)) ++ (zs.drop k).map (Value.int .i64)) → ∃ a c, v = .slice a (ins zs x).length c ∧ Good u a (ins zs x).length c (ins zs x)) := fun v u ho => ref_ins HK.out (by rw [← HN.out]; exact hk) HN.out H.out.sl.2.1 HX.out ho
      have hsz : w'.heap.size ≤ w'.heap.size := Nat.le_refl _
      go_region_law (first
        | (refine step_append_sl (by rfl) _ _ 22 (by rfl) w'.heap.size 2 i0 _ 8 Try.underlying22 hi hz0 hz1 hz2 (by rfl) _ 0 [] (by rfl) (lit0_own (g := w'.heap.size) (heap_alloc_new _ _) hsz) .i64 (a) k c (zs.take k) (by rfl) (SA.out _ (below1 _ _ _)) NA.out (by unfold maxLen; omega) (by omega) (by simp) ?_
           intro v2 w2 o2 g2
           have O2 : w2.ownsRow w'.heap.size 2 1 v2 k ((zs.take k).map (Value.int .i64)) := by simpa using o2
           have B2 : Below w'.heap.size w' w2 := (below1 _ _ _).grown g2 (by simp) (fun j hj => by simp [Value.ownBlock] at hj; omega)
           clear o2 g2)
        | (refine step_append_sl (by rfl) _ _ 22 (by rfl) w'.heap.size 2 i0 _ 8 Try.underlying22 hi hz0 hz1 hz2 (by rfl) _ 0 [] (by rfl) (lit0_own (g := w'.heap.size) ((Below.heap_alloc _ _ _ (by simp)).trans (heap_alloc_new _ _)) hsz) .i64 (a) k c (zs.take k) (by rfl) (SA.out _ (below2 _ _ _ _)) NA.out (by unfold maxLen; omega) (by omega) (by simp; omega) ?_
           intro v2 w2 o2 g2
           have O2 : w2.ownsRow w'.heap.size 2 1 v2 k ((zs.take k).map (Value.int .i64)) := by simpa using o2
           have B2 : Below w'.heap.size w' w2 := (below2 _ _ _ _).grown g2 (by simp; omega) (fun j hj => by simp [Value.ownBlock] at hj; omega)
           have PL : Sl .i64 w2 (some ⟨w'.heap.size + 1, 0, none⟩) 1 [x] := sl_grown (by have := Sl.new .i64 ((w'.drewN 1).alloc (.cells #[] 2)) 2 (0, 0) [x] HW.out; rw [size_alloc] at this; exact this) g2 (by simp [Value.ownBlock]) (by simp)
           clear o2 g2)
        | (refine step_append_sl (by rfl) _ _ 22 (by rfl) w'.heap.size 2 i0 _ 8 Try.underlying22 hi hz0 hz1 hz2 (by rfl) _ 0 [] (by rfl) (lit0_own (g := w'.heap.size + 1) (by have := heap_alloc_new ((w'.drewN 1).alloc (.cells #[.int .i64 x] 2)) (.cells #[] 2); rw [size_alloc] at this; exact this) (by omega)) .i64 (a) k c (zs.take k) (by rfl) (SA.out _ (below2 _ _ _ _)) NA.out (by unfold maxLen; omega) (by omega) (by simp; omega) ?_
           intro v2 w2 o2 g2
           have O2 : w2.ownsRow w'.heap.size 2 1 v2 k ((zs.take k).map (Value.int .i64)) := by simpa using o2
           have B2 : Below w'.heap.size w' w2 := (below2 _ _ _ _).grown g2 (by simp; omega) (fun j hj => by simp [Value.ownBlock] at hj; omega)
           have PL : Sl .i64 w2 (some ⟨w'.heap.size, 0, none⟩) 1 [x] := sl_grown ((Sl.new .i64 (w'.drewN 1) 2 (0, 0) [x] HW.out).alloc _) g2 (by simp [Value.ownBlock]) (by simp; omega)
           clear o2 g2)
        | (refine step_append_sl (by rfl) _ _ 22 (by rfl) w'.heap.size 2 i0 _ 8 Try.underlying22 hi hz0 hz1 hz2 (by rfl) v2 k ((zs.take k).map (Value.int .i64)) (by rfl) (own_below O2 (box_below _ _)) .i64 (some ⟨w2.heap.size, 0, none⟩) 1 1 [x] (by rfl) (Sl.new .i64 w2 2 (0, 0) [x] HW.out) (fun h => by cases h) (by unfold maxLen; omega) (by omega) (B2.alloc B2.size _).size ?_
           intro v3 w3 o3 g3
           have O3 : w3.ownsRow w'.heap.size 2 1 v3 (k + 1) ((zs.take k).map (Value.int .i64) ++ [x].map (Value.int .i64)) := o3
           have B3 : Below w'.heap.size w' w3 := (B2.alloc B2.size _).grown g3 (B2.alloc B2.size _).size (fun j hj => (O2.lt j hj).1)
           clear o3 g3)
        | (refine step_append_sl (by rfl) _ _ 22 (by rfl) w'.heap.size 2 i0 _ 8 Try.underlying22 hi hz0 hz1 hz2 (by rfl) v2 k ((zs.take k).map (Value.int .i64)) (by rfl) O2 .i64 _ 1 1 [x] (by rfl) PL (fun h => by cases h) (by unfold maxLen; omega) (by omega) B2.size ?_
           intro v3 w3 o3 g3
           have O3 : w3.ownsRow w'.heap.size 2 1 v3 (k + 1) ((zs.take k).map (Value.int .i64) ++ [x].map (Value.int .i64)) := o3
           have B3 : Below w'.heap.size w' w3 := B2.grown g3 B2.size (fun j hj => (O2.lt j hj).1)
           clear o3 g3)
        | (refine step_append_sl (by rfl) _ _ 22 (by rfl) w'.heap.size 2 i0 _ 8 Try.underlying22 hi hz0 hz1 hz2 (by rfl) v3 (k + 1) ((zs.take k).map (Value.int .i64) ++ [x].map (Value.int .i64)) (by rfl) O3 .i64 (cutK (a) c k) (n - k) (c - k) (zs.drop k) (by rfl) (SB.out _ B3) NB.out (by unfold maxLen; omega) (by omega) B3.size ?_
           intro v4 w4 o4 g4
           have B4 : Below w'.heap.size w' w4 := B3.grown g4 B3.size (fun j hj => (O3.lt j hj).1)
           have FR := R.out v4 w4 o4
           obtain ⟨a4, c4, hv4, G4⟩ := FR
           subst hv4
           clear o4 g4)
        | fail)
      all_goals
        clear O3 B3 O2 B2
        go_wp2
        all_goals
          go_ret2
          exact ⟨a4, c4, rfl, G4, B4⟩

theorem refAdd_any (a : Option Addr) (n c : Nat) (zs : List Int) (x : Int) (w : World) (h : Good w a n c zs) (hx : IntKind.i64.wrap x = x) (hm : n ≤ 1000000) :
    Calls Try.prog 10 #[.slice a n c, .int .i64 x] w (AddEnd w zs x) := by
  cases hh : hasB zs x with
  | true => exact refAdd_no a n c zs x w h hm (.inl hh)
  | false =>
    by_cases hf : zs.length < 200
    · exact refAdd_ins a n c zs x w h hx hm hh hf
    · exact refAdd_no a n c zs x w h hm (.inr (by omega))
end Go.Proofs.Ytadnohkgbggoiaa
