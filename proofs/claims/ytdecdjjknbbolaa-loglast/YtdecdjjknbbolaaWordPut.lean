/-
  The contracts of giro/word's add, Put and Row, over this seat's program.
-/
import Derived.Test.YtdecdjjknbbolaaWordNums
namespace Go.Proofs.Ytdecdjjknbbolaa
open Go.RowKit
set_option linter.unusedVariables false

theorem grown_trans {a b c : World} {row : Option Nat} (h : a.grownBy b row) (k : b.grownBy c row) : a.grownBy c row :=
  ⟨k.os.trans h.os, k.tape.trans h.tape, k.output.trans h.output, Nat.le_trans h.size k.size, fun i hi hr => (k.block i (Nat.lt_of_lt_of_le hi h.size) hr).trans (h.block i hi hr)⟩

theorem eight_new (w : World) (T : TypeId) (zs : List Int) (j : Nat) (u : Value) (hj : (zs.map (Value.int .u8))[j]? = some u) :
    (w.alloc (.cells (zs.map (Value.int .u8)).toArray T)).cell? ((⟨w.heap.size, 0, none⟩ : Addr).add j) = some u := by
  have h := cell_of_row (w.alloc (.cells (zs.map (Value.int .u8)).toArray T)) w.heap.size j _ _ _ (heap_alloc_new w _)
  rw [Addr.add_flat, Nat.zero_add, h]
  simpa using hj

def AddEnd (w : World) (B g n cap : Nat) (xs : List Value) (zs : List Int) (e : Ending) (w' : World) : Prop :=
  e = .returned (.slice (some ⟨g, 0, none⟩) (n + 8 * zs.length) cap) ∧ w'.ownsRow B 5 1 (.slice (some ⟨g, 0, none⟩) (n + 8 * zs.length) cap) (n + 8 * zs.length) (xs ++ (encs zs).map (Value.int .u8)) ∧ w.grownBy w' (some g)

set_option maxHeartbeats 2000000 in
theorem add_row (B g n cap b off c2 : Nat) (xs : List Value) (zs : List Int) (w : World) (hown : w.ownsRow B 5 1 (.slice (some ⟨g, 0, none⟩) n cap) n xs) (hne : b ≠ g) (hfit : n + 8 * zs.length ≤ cap)
    (hm : cap ≤ 9223372036854775807) (hwf : ∀ n ∈ zs, IntKind.i64.wrap n = n) (hc : ∀ i, i < zs.length → w.cell? ⟨b, off + i, none⟩ = some (.int .i64 (zs.getD i 0))) :
    Calls Try.prog 52 #[.slice (some ⟨g, 0, none⟩) n cap, .slice (some ⟨b, off, none⟩) zs.length c2] w (AddEnd w B g n cap xs zs) := by
  obtain ⟨i0, hi, hz0, hz1, hz2⟩ := info_parts infoU8
  have hgw := (hown.lt g rfl).2
  go_enter Try.func52, Try.ntmps52
  go_wp2
  go_loopw [0, 9] (fun v i wr => ∃ (k K : Nat), k ≤ zs.length ∧ K = n + 8 * k ∧ i = .int .i64 k ∧ v = .slice (some ⟨g, 0, none⟩) K cap ∧ wr.ownsRow B 5 1 (.slice (some ⟨g, 0, none⟩) K cap) K (xs ++ (encs (zs.take k)).map (Value.int .u8)) ∧ w.grownBy wr (some g)) (fun _ i _ => zs.length - (intOf i).toNat)
  case atStart => exact ⟨0, n, by omega, rfl, rfl, rfl, by simpa [encs] using hown, World.grownBy.refl _ _⟩
  case round =>
    obtain ⟨k, K, hk, hK, rfl, rfl, ho, hg⟩ := hrel
    by_cases hlt : k < zs.length
    · obtain ⟨z, hz⟩ : ∃ z, zs.getD k 0 = z := ⟨_, rfl⟩
      have hcell : wr.cell? ⟨b, off + k, none⟩ = some (.int .i64 z) := by
        rw [← hz]
        exact hg.cell (hc k hlt) (by simpa using hne)
      have hb := wf_i64 (hwf _ (getD_mem hlt))
      rw [hz] at hb
      obtain ⟨z0, z1⟩ := hb
      have kfit : K + 8 ≤ cap := by omega
      have k1 : (k : Int) < (zs.length : Int) := by omega
      have HZ : Hid (zs.getD k 0 = z) := hz
      have HK : Hid (K = n + 8 * k) := hK
      have Hg : Hid (w.grownBy wr (some g)) := hg
      clear hz hK hg hc hwf hown
      go_wp2_with (at_builtin; refine wpList_append_fits _ rfl _ _ 26 rfl B 5 i0 1 Try.underlying26 hi hz1 g K cap _ rfl (ho.alloc _) ⟨wr.heap.size, 0, none⟩ 8 8 ((enc z).map (Value.int .u8)) rfl rfl ?c1 ?c2 ?c3 ?_)
      case c1 => exact eight_new wr 5 (enc z)
      case c2 => exact oneCell_int _ _
      case c3 => omega
      intro w2 hown' hgrow
      have R1 : Hid (w2.ownsRow B 5 1 (.slice (some ⟨g, 0, none⟩) (K + 8) cap) (K + 8) (xs ++ (encs (zs.take (k + 1))).map (Value.int .u8))) := by
        have e : xs ++ (encs (zs.take (k + 1))).map (Value.int .u8) = xs ++ (encs (zs.take k)).map (Value.int .u8) ++ (enc z).map (Value.int .u8) := by
          have e1 : zs.take (k + 1) = zs.take k ++ [z] := by
            rw [List.take_succ_eq_append_getElem hlt, ← HZ.out]
            simp [hlt]
          rw [e1, encs_append, encs_one, List.map_append, List.append_assoc]
        show w2.ownsRow B 5 1 (.slice (some ⟨g, 0, none⟩) (K + 8) cap) (K + 8) (xs ++ (encs (zs.take (k + 1))).map (Value.int .u8))
        rw [e, List.append_assoc]; exact hown'
      have R2 : Hid (w.grownBy w2 (some g)) := grown_trans (grown_trans Hg.out (World.grownBy_alloc wr _ _)) hgrow
      clear hown' hgrow ho Hg hcell HZ
      go_wp2
      go_roundw
      case rel => exact ⟨k + 1, K + 8, by omega, by have := HK.out; omega, by go_num, rfl, R1.out, R2.out⟩
      case measure => simp [intOf]; omega
    · obtain rfl : k = zs.length := by omega
      have HO : Hid (wr.ownsRow B 5 1 (.slice (some ⟨g, 0, none⟩) K cap) K (xs ++ (encs (zs.take zs.length)).map (Value.int .u8))) := ho
      have HK : Hid (K = n + 8 * zs.length) := hK
      have Hg : Hid (w.grownBy wr (some g)) := hg
      clear ho hK hg hc hwf hown
      go_wp2
      go_ret
      have ho := HO.out
      rw [List.take_length, HK.out] at ho
      unfold AddEnd
      rw [← HK.out] at ho ⊢
      exact ⟨rfl, ho, Hg.out⟩

set_option maxHeartbeats 400000 in
theorem add_none (B g n cap c2 : Nat) (a : Option Addr) (xs : List Value) (w : World) (hown : w.ownsRow B 5 1 (.slice (some ⟨g, 0, none⟩) n cap) n xs) :
    Calls Try.prog 52 #[.slice (some ⟨g, 0, none⟩) n cap, .slice a 0 c2] w (AddEnd w B g n cap xs []) := by
  have HO : Hid (w.ownsRow B 5 1 (.slice (some ⟨g, 0, none⟩) n cap) n xs) := hown
  clear hown
  go_enter Try.func52, Try.ntmps52
  go_wp2
  refine wp_loop_rounds 1 ?_
  rw [rounds_succ]
  go_wp2
  go_ret
  exact ⟨rfl, by simpa [encs] using HO.out, World.grownBy.refl _ _⟩

theorem add_any (B g n cap c2 len : Nat) (a : Option Addr) (xs : List Value) (zs : List Int) (w : World) (hown : w.ownsRow B 5 1 (.slice (some ⟨g, 0, none⟩) n cap) n xs) (h : Sl .i64 w a len zs)
    (hne : ∀ b off, a = some ⟨b, off, none⟩ → b ≠ g) (hfit : n + 8 * len ≤ cap) (hm : cap ≤ 9223372036854775807) :
    Calls Try.prog 52 #[.slice (some ⟨g, 0, none⟩) n cap, .slice a len c2] w (AddEnd w B g n cap xs zs) := by
  have hl := h.1
  subst hl
  rcases h.2.2 with rfl | ⟨b, off, rfl, hc⟩
  · exact add_none B g n cap c2 a xs w hown
  · exact add_row B g n cap b off c2 xs zs w hown (hne b off rfl) hfit hm h.2.1 hc

theorem Sl.apartF {k : IntKind} {w : World} {a : Option Addr} {len : Nat} {zs : List Int} (h : Sl k w a len zs) (g : Nat) (hg : w.heap.size ≤ g) : ∀ b off, a = some ⟨b, off, none⟩ → zs = [] ∨ b ≠ g := by
  intro b off ha
  rcases h.2.2 with h0 | ⟨b', off', ha', hc⟩
  · exact .inl h0
  · by_cases h0 : zs = []
    · exact .inl h0
    · have := block_lt_of_cell (hc 0 (List.length_pos_iff.mpr h0))
      rw [ha] at ha'
      simp at ha'
      right
      simp at this
      omega

/-- What Put answers: the call's own row of the bytes. -/
def PutEnd (w : World) (bs : List Int) (e : Ending) (w' : World) : Prop :=
  ∃ g cap, e = .returned (.slice (some ⟨g, 0, none⟩) bs.length cap) ∧ w'.ownsRow w.heap.size 5 1 (.slice (some ⟨g, 0, none⟩) bs.length cap) bs.length (bs.map (Value.int .u8)) ∧ Below w.heap.size w w'

set_option maxHeartbeats 1000000 in
theorem put_any (a : Option Addr) (len c2 : Nat) (zs : List Int) (w : World) (h : Sl .i64 w a len zs) (hr : len ≤ 17592186044416) :
    Calls Try.prog 43 #[.slice a len c2] w (PutEnd w (encs zs)) := by
  obtain ⟨i0, hi, hz0, hz1, hz2⟩ := info_parts infoU8
  have HL : Hid (len = zs.length) := h.1
  have hsep := h.apartF w.heap.size (Nat.le_refl _)
  go_enter Try.func43, Try.ntmps43
  go_wp2_with (at_make; refine wpList_make_own _ rfl _ _ 26 rfl w.heap.size 5 i0 (.int .u8 0) 1 Try.underlying26 hi hz0 hz1 _ _ _ (8 * len) rfl rfl (by omega) ?bytes ?maxl ?base ?_)
  case bytes => rw [hz2]; omega
  case maxl => unfold maxLen; omega
  case base => omega
  intro w1 hown1 hg1
  have bel1 : Below w.heap.size w w1 := (Below.refl _ _).grown hg1 (Nat.le_refl _) (fun k hk => by simp at hk)
  have A : Calls Try.prog 52 #[.slice (some ⟨w.heap.size, 0, none⟩) 0 (8 * len), .slice a len c2] w1 (AddEnd w1 w.heap.size w.heap.size 0 (8 * len) [] zs) := by
    by_cases h0 : zs = []
    · subst h0
      have := HL.out
      simp at this
      subst this
      exact add_none _ _ _ _ _ _ _ _ hown1
    · exact add_any w.heap.size w.heap.size 0 (8 * len) c2 len a [] zs w1 hown1 (h.below bel1) (fun b off ha => (hsep b off ha).resolve_left h0) (by omega) (by omega)
  clear hsep h hown1
  go_wp2_with (go_at_call 52; refine A.mono ?_; rintro e w2 ⟨rfl, hown, hg⟩)
  go_ret
  have bel2 := bel1.grown hg bel1.size (fun k hk => by simp at hk; omega)
  rw [Nat.zero_add] at hown
  refine ⟨w.heap.size, 8 * len, ?_, ?_, bel2⟩
  · rw [encs_length]; rfl
  · rw [encs_length]; simpa using hown

/-- add, where what is added lay there before. -/
theorem add_old (B g n cap c2 len : Nat) (a : Option Addr) (xs : List Value) (zs : List Int) (w0 w : World) (hown : w.ownsRow B 5 1 (.slice (some ⟨g, 0, none⟩) n cap) n xs) (h0 : Sl .i64 w0 a len zs) (hg : w0.heap.size ≤ g) (h : Sl .i64 w a len zs)
    (hfit : n + 8 * len ≤ cap) (hm : cap ≤ 9223372036854775807) :
    Calls Try.prog 52 #[.slice (some ⟨g, 0, none⟩) n cap, .slice a len c2] w (AddEnd w B g n cap xs zs) := by
  by_cases hz : zs = []
  · subst hz
    have := h.1
    simp at this
    subst this
    exact add_none _ _ _ _ _ _ _ _ hown
  · exact add_any B g n cap c2 len a xs zs w hown h (fun b off ha => (h0.apartF g hg b off ha).resolve_left hz) hfit hm

/-- How many, and they. -/
def rowS (zs : List Int) : List Int := encs (zs.length :: zs)

end Go.Proofs.Ytdecdjjknbbolaa
