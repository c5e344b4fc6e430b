/-
  What a payment that is put into a row does to it: where it stands, what the others are (plain lists); and of 65536.
-/
import Derived.Test.YtmfmdicdbjghkaaRowSpec
import Derived.Laws.BitsLemmas
namespace Go.Proofs.Ytmfmdicdbjghkaa
open Go.RowKit
set_option linter.unusedVariables false
set_option linter.unusedSimpArgs false

theorem i64_and65535 (n : Int) : bits .and .i64 n 65535 = n % 65536 := by
  have h127 : (BitVec.ofInt 64 65535).toNat = 2 ^ 16 - 1 := by decide
  have key : (BitVec.ofInt 64 n &&& BitVec.ofInt 64 65535).toNat = (n % ((2 ^ 64 : Nat) : Int)).toNat % 2 ^ 16 := by
    rw [BitVec.toNat_and, BitVec.toNat_ofInt, h127, Nat.and_two_pow_sub_one_eq_mod]
  show IntKind.i64.wrap ((BitVec.ofInt 64 n &&& BitVec.ofInt 64 65535).toNat : Nat) = n % 65536
  rw [key, IntKind.wrap_i64]
  omega
/-- A place among n, out of any number. -/
theorem place_of (x : Int) (n : Nat) (hn : 1 ≤ n) : ∃ (u : Int) (k : Nat), bits .and .i64 x 65535 = u ∧ u % (n : Int) = (k : Int) ∧ k < n ∧ 0 ≤ u ∧ u < 65536 := by
  have h1 := Int.emod_lt_of_pos (x % 65536) (show (0 : Int) < (n : Int) by omega)
  have h2 := Int.emod_nonneg (x % 65536) (show (n : Int) ≠ 0 by omega)
  exact ⟨x % 65536, ((x % 65536) % (n : Int)).toNat, i64_and65535 x, by omega, by omega, by omega, by omega⟩

theorem at_of {L : List P7} (h : L.Pairwise QR) {k : Nat} (hk : k < L.length) : qHas L (L.getD k p70).id = true ∧ qAt L (L.getD k p70).id = k :=
  find_yes hk (fun t ht e => (pw_at h ht hk).2 e) rfl
theorem ins_at {R : List P7} {k : Nat} {p : P7} (hk : k ≤ R.length) (hid : qHas R p.id = false) : qHas (qIns R k p) p.id = true ∧ qAt (qIns R k p) p.id = k ∧ qDrop (qIns R k p) p.id = R ∧ qDropP (qIns R k p) p.id = p := by
  have h1 := find_yes (l := qIns R k p) (x := p.id) (k := k) (by rw [qIns_len hk]; omega) (fun t ht => by rw [qIns_lo hk ht]; exact has_not.1 hid _ (getD_in (by omega))) (by rw [qIns_at hk])
  refine ⟨h1.1, h1.2, ?_, ?_⟩
  · rw [(drop_yes h1.1).1, h1.2, rest_ins hk]
  · rw [(drop_yes h1.1).2.1, h1.2, qIns_at hk]

/-- All that RowOrder asks of a row in which one has been moved. -/
structure Moved (L M : List P7) (p : P7) (kk : Nat) (back : Bool) : Prop where
  que : Que M
  len : M.length = L.length
  has : qHas M p.id = true
  spot : qAt M p.id = kk
  drop : qDrop M p.id = qDrop L p.id
  dropP : qDropP M p.id = p
  lt : kk < L.length
  side : ∀ i, i < L.length → i ≠ kk → (M.getD i p70).fr = p.fr → (M.getD i p70).cl = p.cl → decide (i < kk) = back
theorem dropP_at {L : List P7} (h : L.Pairwise QR) {k : Nat} (hk : k < L.length) : qDropP L (L.getD k p70).id = L.getD k p70 := by
  obtain ⟨h1, h2⟩ := at_of h hk
  rw [(drop_yes h1).2.1, h2]
theorem moved_front {L : List P7} (h : Que L) {k : Nat} (hk : k < L.length) {p : P7} (hp : L.getD k p70 = p) : ∃ kk, Moved L (qFront L p.id) p kk false := by
  have hh := (at_of h.2 hk).1
  rw [hp] at hh
  have hP := dropP_at h.2 hk
  rw [hp] at hP
  have hR : qHas (qDrop L p.id) p.id = false := drop_has h.2
  have hle := qAhd_le (qDrop L p.id) p
  have hf : qFront L p.id = qIns (qDrop L p.id) (qAhd (qDrop L p.id) p) p := by rw [front_yes hh, hP]
  obtain ⟨i1, i2, i3, i4⟩ := ins_at hle hR
  have hdl := drop_len hh
  refine ⟨qAhd (qDrop L p.id) p, ⟨h.front _, front_len _, by rw [hf]; exact i1, by rw [hf]; exact i2, by rw [hf]; exact i3, by rw [hf]; exact i4, by omega, ?_⟩⟩
  intro i hi hne hfr hcl
  rw [decide_eq_false_iff_not]
  intro hlt
  rw [hf, qIns_lo hle hlt] at hfr hcl
  have := ahd_lo hlt
  rw [qLe_not] at this
  omega
theorem moved_back {L : List P7} (h : Que L) {k : Nat} (hk : k < L.length) {p : P7} (hp : L.getD k p70 = p) : ∃ kk, Moved L (qBack L p.id) p kk true := by
  have hh := (at_of h.2 hk).1
  rw [hp] at hh
  have hP := dropP_at h.2 hk
  rw [hp] at hP
  have hR : qHas (qDrop L p.id) p.id = false := drop_has h.2
  have hle := qBeh_le (qDrop L p.id) p
  have hf : qBack L p.id = qIns (qDrop L p.id) (qBeh (qDrop L p.id) p) p := by rw [back_yes hh, hP]
  obtain ⟨i1, i2, i3, i4⟩ := ins_at hle hR
  have hdl := drop_len hh
  refine ⟨qBeh (qDrop L p.id) p, ⟨h.back _, back_len _, by rw [hf]; exact i1, by rw [hf]; exact i2, by rw [hf]; exact i3, by rw [hf]; exact i4, by omega, ?_⟩⟩
  intro i hi hne hfr hcl
  rw [decide_eq_true_eq]
  rcases Nat.lt_or_ge i (qBeh (qDrop L p.id) p) with hlt | hge
  · exact hlt
  · exfalso
    rw [hf, qIns_hi hle (by omega)] at hfr hcl
    have := beh_hi (h.drop p.id).2 (p := p) (t := i - 1) (by omega) (by omega)
    rw [qLe_not] at this
    omega

/-- All that RowClass asks of a row in which one has another class. -/
structure Classed (L M : List P7) (p : P7) (c : Int) (kk : Nat) : Prop where
  que : Que M
  len : M.length = L.length
  has : qHas M p.id = true
  spot : qAt M p.id = kk
  drop : qDrop M p.id = qDrop L p.id
  dropP : qDropP M p.id = setC p c
  lt : kk < L.length
  cl : (M.getD kk p70).cl = c
  rest : qHas (qDrop L p.id) p.id = false
  side : ∀ i, kk < i → i < L.length → (M.getD i p70).fr = p.fr → ¬ (M.getD i p70).cl = c
theorem classed {L : List P7} (h : Que L) {k : Nat} (hk : k < L.length) {p : P7} (hp : L.getD k p70 = p) (c : Int) : ∃ kk, Classed L (qClass L p.id c) p c kk := by
  have hh := (at_of h.2 hk).1
  rw [hp] at hh
  have hP := dropP_at h.2 hk
  rw [hp] at hP
  have hR : qHas (qDrop L p.id) (setC p c).id = false := drop_has h.2
  have hle := qBeh_le (qDrop L p.id) (setC p c)
  have hf : qClass L p.id c = qIns (qDrop L p.id) (qBeh (qDrop L p.id) (setC p c)) (setC p c) := by rw [class_yes hh, hP]
  obtain ⟨i1, i2, i3, i4⟩ := ins_at hle hR
  have hdl := drop_len hh
  refine ⟨qBeh (qDrop L p.id) (setC p c), ⟨h.class _ _, class_len _ _, by rw [hf]; exact i1, by rw [hf]; exact i2, by rw [hf]; exact i3, by rw [hf]; exact i4, by omega, by rw [hf, qIns_at hle]; rfl, hR, ?_⟩⟩
  intro i hlt hi hfr hcl
  rw [hf, qIns_hi hle hlt] at hfr hcl
  have := beh_hi (h.drop p.id).2 (p := setC p c) (t := i - 1) (by omega) (by omega)
  rw [qLe_not] at this
  have e1 : (setC p c).fr = p.fr := rfl
  have e2 : (setC p c).cl = c := rfl
  omega

end Go.Proofs.Ytmfmdicdbjghkaa
