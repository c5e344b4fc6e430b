/-
  Rows of payments: what a call owns, cuts, and carries on.
-/
import Derived.Test.YtmfmdicdbjghkaaPaySame
import Derived.Deep.RegionLaw
import Derived.Laws.AppendOwnNone
import Derived.Laws.AppendOwn
namespace Go.Proofs.Ytmfmdicdbjghkaa
open Go.RowKit
set_option linter.unusedVariables false
set_option linter.unusedSimpArgs false

theorem infoPay : (Try.prog.info? 34).map (fun i => (i.zero, i.size, i.bytes)) = some (some (.agg #[.int .i64 0, .int .i64 0, .int .i64 0, .int .i64 0, .int .i64 0, .int .i64 0, .int .i64 0]), 7, 56) := by kernel_rfl
theorem sizePay : (Try.prog.info? 34).map (·.size) = some 7 := by kernel_rfl

/-- The cells of payments. -/
def payL : List P7 → List Value
  | [] => []
  | x :: l => .int .i64 x.id :: .int .i64 x.fr :: .int .i64 x.to :: .int .i64 x.am :: .int .i64 x.cl :: .int .i64 x.st :: .int .i64 x.ti :: payL l
theorem payL_length (A : List P7) : (payL A).length = A.length * 7 := by
  induction A with
  | nil => rfl
  | cons x l ih => simp only [payL, List.length_cons, ih]; omega
/-- A payment's j-th number. -/
def P7.nth (p : P7) (j : Nat) : Int := if j = 0 then p.id else if j = 1 then p.fr else if j = 2 then p.to else if j = 3 then p.am else if j = 4 then p.cl else if j = 5 then p.st else p.ti
theorem payL_nth (A : List P7) (i j : Nat) (h : i < A.length) (hj : j < 7) : (payL A)[i * 7 + j]? = some (.int .i64 ((A.getD i p70).nth j)) := by
  induction A generalizing i with
  | nil => simp at h
  | cons x l ih =>
    cases i with
    | zero =>
      rw [Nat.zero_mul, Nat.zero_add]
      rcases (by omega : j = 0 ∨ j = 1 ∨ j = 2 ∨ j = 3 ∨ j = 4 ∨ j = 5 ∨ j = 6) with rfl | rfl | rfl | rfl | rfl | rfl | rfl <;> rfl
    | succ i =>
      have := ih i (by simpa using h)
      rw [show (i + 1) * 7 + j = i * 7 + j + 7 by omega]
      simpa [payL] using this
theorem payL_append (A B : List P7) : payL (A ++ B) = payL A ++ payL B := by
  induction A with
  | nil => rfl
  | cons x l ih => simp [payL, ih]
theorem payL_one (A : List P7) : ∀ v ∈ payL A, v.oneCell' = true := by
  induction A with
  | nil => intro v hv; simp [payL] at hv
  | cons x l ih =>
    intro v hv
    simp only [payL, List.mem_cons] at hv
    rcases hv with rfl | rfl | rfl | rfl | rfl | rfl | rfl | hv
    · rfl
    · rfl
    · rfl
    · rfl
    · rfl
    · rfl
    · rfl
    · exact ih v hv
theorem At7.nth {w : World} {g o : Nat} {p : P7} (h : At7 w g o p) (j : Nat) (hj : j < 7) : w.cell? ⟨g, o + j, none⟩ = some (.int .i64 (p.nth j)) := by
  obtain ⟨h0, h1, h2, h3, h4, h5, h6⟩ := h
  rcases (by omega : j = 0 ∨ j = 1 ∨ j = 2 ∨ j = 3 ∨ j = 4 ∨ j = 5 ∨ j = 6) with rfl | rfl | rfl | rfl | rfl | rfl | rfl
  · exact h0
  · exact h1
  · exact h2
  · exact h3
  · exact h4
  · exact h5
  · exact h6
theorem At7.of {w : World} {g o : Nat} {p : P7} (h : ∀ j, j < 7 → w.cell? ⟨g, o + j, none⟩ = some (.int .i64 (p.nth j))) : At7 w g o p :=
  ⟨h 0 (by omega), h 1 (by omega), h 2 (by omega), h 3 (by omega), h 4 (by omega), h 5 (by omega), h 6 (by omega)⟩

/-- A row of payments in full: its elements, its room. -/
structure PGood (w : World) (a : Option Addr) (n c : Nat) (L : List P7) : Prop where
  pays : Pays w a n L
  cap : n ≤ c
  max : c ≤ 9223372036854775807
  nil0 : a = none → c = 0
theorem PGood.below {w w' : World} {a : Option Addr} {n c : Nat} {L : List P7} (h : PGood w a n c L) (k : Below w.heap.size w w') : PGood w' a n c L := ⟨h.pays.below k, h.cap, h.max, h.nil0⟩
theorem PGood.nil (w : World) : PGood w none 0 0 [] := ⟨Pays.nil _ _, Nat.le_refl _, by omega, fun _ => rfl⟩
theorem PGood.len {w : World} {a : Option Addr} {n c : Nat} {L : List P7} (h : PGood w a n c L) : n = L.length := h.pays.1
theorem PGood.at {w : World} {a : Option Addr} {n c : Nat} {L : List P7} (h : PGood w a n c L) {i : Nat} (hi : i < n) : ∃ b off, a = some ⟨b, off, none⟩ ∧ ∀ j, j < n → At7 w b (off + j * 7) (L.getD j p70) := by
  have hl := h.pays.1
  rcases h.pays.2 with h0 | ⟨b, off, ha, hc⟩
  · subst h0; simp at hl; omega
  · exact ⟨b, off, ha, fun j hj => hc j (by omega)⟩

theorem PGood.own {w : World} {B : Nat} {v : Value} {n : Nat} {A : List P7} (h : w.ownsRow B 34 7 v n (payL A)) : ∃ a cap, v = .slice a A.length cap ∧ PGood w a A.length cap A ∧ ∀ x, a = some x → B ≤ x.block := by
  have hn : n = A.length := by have := h.1; rw [payL_length] at this; omega
  subst hn
  rcases h.2 with ⟨rfl, h0⟩ | ⟨g, cap, cur, rfl, hB, _, hc, hm, _⟩
  · have : A = [] := List.length_eq_zero_iff.mp h0
    subst this
    exact ⟨none, 0, rfl, PGood.nil w, fun x hx => by cases hx⟩
  · refine ⟨some ⟨g, 0, none⟩, cap, rfl, ⟨⟨rfl, .inr ⟨g, 0, rfl, fun i hi => At7.of fun j hj => ?_⟩⟩, hc, by unfold maxLen at hm; omega, fun h => by simp at h⟩, fun x hx => by cases hx; exact hB⟩
    rw [Nat.zero_add, h.cellAt (i * 7 + j) (by omega), payL_nth A i j hi hj]
/-- A block beside it is written. -/
theorem PGood.far {w : World} {a : Option Addr} {n c : Nat} {L : List P7} (h : PGood w a n c L) {g : Nat} (hne : ∀ x, a = some x → x.block ≠ g) (cs : Array Value) : PGood (w.setRow g cs) a n c L := by
  refine ⟨⟨h.pays.1, ?_⟩, h.cap, h.max, h.nil0⟩
  rcases h.pays.2 with h0 | ⟨b, off, ha, hc⟩
  · exact .inl h0
  · refine .inr ⟨b, off, ha, fun i hi => At7.of fun j hj => ?_⟩
    have hb : b ≠ g := hne _ ha
    have := (hc i hi).nth j hj
    unfold World.cell? at this ⊢
    rw [setRow_other _ _ _ _ (by simpa using hb)]
    exact this

theorem Pays.src {w : World} {ad : Addr} {n : Nat} {A : List P7} (h : Pays w (some ad) n A) : ∀ j v, (payL A)[j]? = some v → w.cell? (ad.add j) = some v := by
  intro j v hj
  have hjl : j < A.length * 7 := by rw [← payL_length]; exact (List.getElem?_eq_some_iff.1 hj).1
  rcases h.2 with hz | ⟨b, off, ha, hc⟩
  · subst hz; simp at hjl
  · simp at ha
    subst ha
    have c0 := payL_nth A (j / 7) (j % 7) (by omega) (by omega)
    have d0 := (hc (j / 7) (by omega)).nth (j % 7) (by omega)
    rw [show j / 7 * 7 + j % 7 = j by omega, hj] at c0
    rw [Addr.add_flat, show off + j = off + j / 7 * 7 + j % 7 by omega, d0, ← c0]

/-- Where the cut a[k:] begins. -/
abbrev pcut (a : Option Addr) (c k : Nat) : Option Addr := if c = k then a else Option.map (fun x => x.add (k * 7)) a
theorem PGood.take {w : World} {a : Option Addr} {n c : Nat} {L : List P7} (h : PGood w a n c L) (k : Nat) (hk : k ≤ n) : PGood w a k c (L.take k) := by
  have hl := h.pays.1
  refine ⟨⟨by simp; omega, ?_⟩, by have := h.cap; omega, h.max, h.nil0⟩
  rcases h.pays.2 with h0 | ⟨b, off, ha, hc⟩
  · subst h0; exact .inl (by simp)
  · refine .inr ⟨b, off, ha, fun i hi => ?_⟩
    have hik : i < k := by simp at hi; omega
    have : (L.take k).getD i p70 = L.getD i p70 := by
      simp only [List.getD_eq_getElem?_getD]
      rw [List.getElem?_take_of_lt hik]
    rw [this]
    exact hc i (by omega)
theorem PGood.from {w : World} {a : Option Addr} {n c : Nat} {L : List P7} (h : PGood w a n c L) (k : Nat) (hk : k ≤ n) : PGood w (pcut a c k) (n - k) (c - k) (L.drop k) := by
  have hl := h.pays.1
  have hc0 := h.cap
  refine ⟨⟨by simp; omega, ?_⟩, by omega, by have := h.max; omega, fun hn => ?_⟩
  · by_cases hlt : k < n
    · rcases h.pays.2 with h0 | ⟨b, off, ha, hc⟩
      · subst h0; simp at hl; omega
      · refine .inr ⟨b, off + k * 7, ?_, fun i hi => ?_⟩
        · rw [pcut, if_neg (by omega), ha]
          simp [Addr.add_flat]
        · have hi' : k + i < L.length := by simp at hi; omega
          have := hc (k + i) hi'
          rw [show (L.drop k).getD i p70 = L.getD (k + i) p70 by simp [List.getD_eq_getElem?_getD], show off + k * 7 + i * 7 = off + (k + i) * 7 by omega]
          exact this
    · exact .inl (List.drop_eq_nil_of_le (by omega))
  · by_cases hc : c = k
    · omega
    · simp only [pcut, if_neg hc] at hn
      have := h.nil0 (by simpa using hn)
      omega
theorem PGood.lit1 (w : World) (p : P7) : PGood (w.alloc (.cells #[.int .i64 p.id, .int .i64 p.fr, .int .i64 p.to, .int .i64 p.am, .int .i64 p.cl, .int .i64 p.st, .int .i64 p.ti] 34)) (some ⟨w.heap.size, 0, none⟩) 1 1 [p] :=
  ⟨⟨rfl, .inr ⟨w.heap.size, 0, rfl, fun i hi => by
    obtain rfl : i = 0 := by simp at hi; omega
    exact At7.new w p _ _⟩⟩, Nat.le_refl _, by omega, fun h => by cases h⟩

theorem payInfo : ∃ i, Try.prog.info? 34 = some i ∧ i.zero = some (.agg #[.int .i64 0, .int .i64 0, .int .i64 0, .int .i64 0, .int .i64 0, .int .i64 0, .int .i64 0]) ∧ i.size = 7 ∧ i.bytes = 56 := info_parts infoPay

/-- append of a row of payments onto nil or onto one that the call owns. -/
theorem run_append_pays {w : World} (ty : TypeId) (base : Nat) (v : Value) (n : Nat) (xs : List P7) (hown : w.ownsRow base 34 7 v n (payL xs)) (ad : Option Addr) (m c : Nat) (ys : List P7) (hS : PGood w ad m c ys) (h63 : n + m ≤ 1000000) (hbase : base ≤ w.heap.size) :
    ∃ v' w', (Builtin.append_ #[22, 22] ty #[v, .slice ad m c]).run Try.prog w = .ok v' w' ∧ w'.ownsRow base 34 7 v' (n + m) (payL (xs ++ ys)) ∧ w.grownBy w' v.ownBlock := by
  obtain ⟨i, hi, hz, hs, hby⟩ := payInfo
  have hl := hS.pays.1
  cases ad with
  | none =>
    have hc := hS.nil0 rfl
    have hm : m = 0 := by have := hS.cap; omega
    subst hm hc
    have hys : ys = [] := List.length_eq_zero_iff.mp hl.symm
    subst hys
    exact ⟨v, w, run_append_owned_none w base 22 ty 34 i 7 Try.underlying22 hi v n _ hown, by simpa using hown, World.grownBy.refl _ _⟩
  | some ad =>
    obtain ⟨v', w', hr, h1, h2, _⟩ := run_append_own w base 22 ty 34 i _ 7 56 Try.underlying22 hi hz hs hby rfl (by decide) v n _ hown ad m c (payL ys) (by rw [payL_length]; omega) hS.pays.src (payL_one ys) (by unfold maxLen; omega) (by omega) hbase
    exact ⟨v', w', hr, by rw [payL_append]; exact h1, h2⟩

theorem wpList_append_pays {w : World} {ops : Array Oper} {rest : List Oper} {o : Oper} {a : Act} {Q : Exit → Act → World → Prop} (hgd : o.guard = none) (s x : Operand)
    (ho : o.op = .call { callee := .builtin .append, args := #[s, x], argTypes := #[22, 22] })
    (base : Nat) (v : Value) (n : Nat) (xs : List P7) (hs : a.eval s = v) (hown : w.ownsRow base 34 7 v n (payL xs)) (ad : Option Addr) (m c : Nat) (ys : List P7) (hx : a.eval x = .slice ad m c) (hS : PGood w ad m c ys) (h63 : n + m ≤ 1000000) (hbase : base ≤ w.heap.size)
    (h : ∀ v' w', w'.ownsRow base 34 7 v' (n + m) (payL (xs ++ ys)) → w.grownBy w' v.ownBlock → wpList Try.prog ops Q rest (a.put o.dst v') w') : wpList Try.prog ops Q (o :: rest) a w := by
  refine wpList_plain hgd fun K hK => ?_
  obtain ⟨v', w', hrun, h1, h2⟩ := run_append_pays o.type base v n xs hown ad m c ys hS h63 hbase
  unfold Oper.wp execOp
  simp only [ho, resolve, invoke, builtin, Sem.run_bind, Sem.run_pure, Result.andThen_ok, List.map_toArray, List.map_cons, List.map_nil, hs, hx, hrun]
  exact hK _ _ (h v' w' h1 h2)

/-- append, as one step of a region that draws. -/
theorem step_append_pays {w : World} {ops : Array Oper} {o : Oper} {a : Act} {K : Act → World → Prop} {Q : Exit → Act → World → Prop} {E : Prop} (hgd : o.guard = none) (s x : Operand)
    (ho : o.op = .call { callee := .builtin .append, args := #[s, x], argTypes := #[22, 22] })
    (base : Nat) (v : Value) (n : Nat) (xs : List P7) (hs : a.eval s = v) (hown : w.ownsRow base 34 7 v n (payL xs)) (ad : Option Addr) (m c : Nat) (ys : List P7) (hx : a.eval x = .slice ad m c) (hS : PGood w ad m c ys) (h63 : n + m ≤ 1000000) (hbase : base ≤ w.heap.size)
    (h : ∀ v' w', w'.ownsRow base 34 7 v' (n + m) (payL (xs ++ ys)) → w.grownBy w' v.ownBlock → K (a.put o.dst v') w') :
    if Region.wanted o (yielded ops a.tmps) = true then Oper.wp Try.prog o a w K Q else E := by
  have hw : Region.wanted o (yielded ops a.tmps) = true := by simp [Region.wanted, hgd]
  rw [if_pos hw]
  obtain ⟨v', w', hrun, h1, h2⟩ := run_append_pays o.type base v n xs hown ad m c ys hS h63 hbase
  unfold Oper.wp
  simp [execOp, ho, resolve, invoke, builtin, hs, hx, hrun, Result.andThen]
  exact h v' w' h1 h2

/-- What a call that makes a row leaves. -/
def PEnd (w : World) (L : List P7) (e : Ending) (w' : World) : Prop := ∃ a c, e = .returned (.slice a L.length c) ∧ PGood w' a L.length c L ∧ (∀ x, a = some x → w.heap.size ≤ x.block) ∧ Below w.heap.size w w'

end Go.Proofs.Ytmfmdicdbjghkaa
