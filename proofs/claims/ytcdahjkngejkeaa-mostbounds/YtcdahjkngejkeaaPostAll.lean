/-
  Texts of this seat in one: CopyApart, PostSpec, PostLay, PostMove, PostStep, PostDo, PostRef.
-/
import Derived.Test.YtcdahjkngejkeaaLimTwo
import Derived.Test.YtcdahjkngejkeaaLimSome
import Derived.Test.YtcdahjkngejkeaaRowBase
import Derived.Test.YtcdahjkngejkeaaFitsAll
import Derived.Deep.AppendLies
import Derived.Test.YtcdahjkngejkeaaLimOne
import Derived.BigQuiet
import Derived.Test.YtcdahjkngejkeaaFitsRefAll

/-
  lim.Copy and giroref10.Copy: books in new memory, the positions apart from all else.
-/
namespace Go.Proofs.Ytcdahjkngejkeaa
open Go.RowKit
set_option linter.unusedVariables false
set_option linter.unusedSimpArgs false

/-- A slice's block is below S. -/
def Low (S : Nat) (v : Value) : Prop := ∀ g, v.ownBlock = some g → g < S
theorem Low.own {w : World} {B s n : Nat} {T : TypeId} {v : Value} {xs : List Value} (h : w.ownsRow B T s v n xs) : Low w.heap.size v := fun g hg => (h.lt g hg).2
/-- Books that lie in blocks from B on, made by the call; the positions from S on, all else below S. -/
structure NewBkA (w : World) (B S : Nat) (x : BA) (b : Bks) : Prop where
  acc : w.ownsRow B 38 3 (.slice x.aA x.nA x.cA) b.A.length (accL b.A)
  bil : ∃ vs, MadeI w B (.slice x.aB x.nB x.cB) vs b.B ∧ Low S (.slice x.aB x.nB x.cB) ∧ ∀ i, i < b.B.length → Low S (vs.getD i undef)
  mul : w.ownsRow B 2 1 (.slice x.aM x.nM x.cM) b.M.length (b.M.map (Value.int .i64))
  pos : ∃ vs, MadeI w S (.slice x.aP x.nP x.cP) vs b.P
  lowA : Low S (.slice x.aA x.nA x.cA)
  lowM : Low S (.slice x.aM x.nM x.cM)
  up : B ≤ S
  wf : W64 b.M
theorem NewBkA.new {w : World} {B S : Nat} {x : BA} {b : Bks} (h : NewBkA w B S x b) : NewBk w B x b :=
  ⟨h.acc, h.bil.imp fun _ h => h.1, h.mul, h.pos.imp fun _ k => k.base h.up, h.wf⟩
theorem NewBkA.below {w w' : World} {B S : Nat} {x : BA} {b : Bks} (h : NewBkA w B S x b) (k : Below w.heap.size w w') : NewBkA w' B S x b :=
  ⟨own_below h.acc k, h.bil.imp fun _ h => ⟨h.1.below k, h.2⟩, own_below h.mul k, h.pos.imp fun _ h => h.below k, h.lowA, h.lowM, h.up, h.wf⟩
theorem NewBkA.kept {w w' : World} {B S : Nat} {x : BA} {b : Bks} (h : NewBkA w B S x b) (k : Kept (fun n => B ≤ n) w w') : NewBkA w' B S x b :=
  ⟨own_kept h.acc k, h.bil.imp fun _ h => ⟨h.1.kept k, h.2⟩, own_kept h.mul k, h.pos.imp fun _ p => p.kept (fun i hi => k i (Nat.le_trans h.up hi)), h.lowA, h.lowM, h.up, h.wf⟩
theorem NewBkA.base {w : World} {B B' S : Nat} {x : BA} {b : Bks} (h : NewBkA w B S x b) (k : B' ≤ B) : NewBkA w B' S x b :=
  ⟨own_base h.acc k, h.bil.imp fun _ h => ⟨h.1.base k, h.2⟩, own_base h.mul k, h.pos, h.lowA, h.lowM, Nat.le_trans k h.up, h.wf⟩
/-- What a copy of books leaves. -/
def BooksEndA (w : World) (b : Bks) (e : Ending) (w' : World) : Prop := ∃ (y : BA) (S : Nat), e = .returned y.val ∧ NewBkA w' w.heap.size S y b ∧ Below w.heap.size w w'
theorem BooksEndA.low {w : World} {b : Bks} {e : Ending} {w' : World} (h : BooksEndA w b e w') : BooksEnd w b e w' := by
  obtain ⟨y, S, h1, h2, h3⟩ := h
  exact ⟨y, h1, h2.new, h3⟩

/-- Three slices, and the positions behind them, are books. -/
theorem books_apart {w w4 : World} {B nA nM : Nat} {b : Bks} {v0 v1 v2 v3 : Value} {vs : List Value} (wf : W64 b.M) (lA : nA = b.A.length) (lM : nM = b.M.length) (h0 : (Fact.ownR B 38 3 nA (accL b.A)).1 w v0) (h1 : (Fact.rows64 B b.B).1 w v1) (h2 : (Fact.ownR B 2 1 nM (b.M.map (Value.int .i64))).1 w v2)
    (hB : B ≤ w.heap.size) (h3 : MadeI w4 w.heap.size v3 vs b.P) (hb : Below w.heap.size w w4) :
    ∃ x : BA, v0 = .slice x.aA x.nA x.cA ∧ v1 = .slice x.aB x.nB x.cB ∧ v2 = .slice x.aM x.nM x.cM ∧ v3 = .slice x.aP x.nP x.cP ∧ NewBkA w4 B w.heap.size x b := by
  subst lA lM
  obtain ⟨vb, h1⟩ := h1
  obtain ⟨aA, cA, rfl⟩ := own_slice h0
  obtain ⟨aB, cB, rfl⟩ := own_slice h1.own
  obtain ⟨aM, cM, rfl⟩ := own_slice h2
  obtain ⟨aP, cP, rfl⟩ := own_slice h3.own
  exact ⟨⟨aA, _, cA, aB, _, cB, aM, _, cM, aP, _, cP⟩, rfl, rfl, rfl, rfl, ⟨own_below h0 hb, ⟨vb, h1.below hb, Low.own h1.own, fun i hi => Low.own (h1.row i hi)⟩, own_below h2 hb, ⟨vs, h3⟩, Low.own h0, Low.own h2, hB, wf⟩⟩

/-- A call among the last ones; an operation that only reads. -/
theorem wp_call {P : Program} {o : Oper} {a : Act} {w : World} {K : Act → World → Prop} {Q : Exit → Act → World → Prop} (f : FuncId) {fn : Func} (hfn : P.funcs[f]? = some fn) (hname : (fn.name == "runtime.NumGoroutine") = false) (hbody : fn.body.isNone = false) (xs : List Operand) (ts : Array TypeId) (ho : o.op = .call { callee := .value (.func f), args := xs.toArray, argTypes := ts })
    (h : Calls P f (xs.map a.eval).toArray w fun e w' => ∃ v, e = .returned v ∧ K (a.put o.dst v) w') : o.wp P a w K Q := by
  unfold Oper.wp
  have hr : (execOp a.eval o).run P w = (.ok (.enter f (xs.map a.eval).toArray) w) := by
    unfold execOp
    rw [ho]
    simp [resolve, invoke, Act.eval, Deferred.ofValue, run_enter hfn hname hbody]
  rw [hr]
  refine h.mono ?_
  rintro e w' ⟨v, rfl, hk⟩
  exact hk
theorem wp_value {P : Program} {o : Oper} {a : Act} {w : World} {K : Act → World → Prop} {Q : Exit → Act → World → Prop} (v : Value) (hr : (execOp a.eval o).run P w = .ok (.value v) w) (h : K (a.put o.dst v) w) : o.wp P a w K Q := by
  unfold Oper.wp
  rw [hr]
  exact h

end Go.Proofs.Ytcdahjkngejkeaa

/-
  post: payments are posted, as plain lists.
-/
namespace Go.Proofs.Ytcdahjkngejkeaa
open Go.RowKit
set_option linter.unusedVariables false
set_option linter.unusedSimpArgs false

/-- An account behind them; a position; the books. n: how many parties. -/
def postA (b : Bks) (L : List P7) (n i : Nat) : A3 := ((b.A.getD i a30).1 - dTo L i n, (b.A.getD i a30).2.1, keptV (b.A.getD i a30).2.2 (spentS L i))
def postP (b : Bks) (L : List P7) (n i : Nat) : List Int := (List.range n).map fun k => at2 b.P i k + netS L i k
def postB (b : Bks) (L : List P7) : Bks := ⟨(List.range b.A.length).map (postA b L b.A.length), b.B, b.M, (List.range b.A.length).map (postP b L b.A.length)⟩
/-- Which error; what is answered. -/
def postE (b : Bks) (L : List P7) : Int := if allB b L then (if booksB (postB b L) then 0 else 8) else 1
def postR (b : Bks) (L : List P7) : Bks := if allB b L && booksB (postB b L) then postB b L else b

theorem postB_len (b : Bks) (L : List P7) : (postB b L).A.length = b.A.length := by simp [postB]
theorem postB_acct (b : Bks) (L : List P7) {i : Nat} (h : i < b.A.length) : (postB b L).A.getD i a30 = postA b L b.A.length i := by simp [postB, h]
theorem postB_row (b : Bks) (L : List P7) {i : Nat} (h : i < b.A.length) : (postB b L).P.getD i [] = postP b L b.A.length i := by simp [postB, h]
theorem postB_at (b : Bks) (L : List P7) {i k : Nat} (h : i < b.A.length) (hk : k < b.A.length) : at2 (postB b L).P i k = at2 b.P i k + netS L i k := by
  unfold at2
  rw [postB_row b L h]
  simp [postP, hk]
  rfl
theorem netS_turn (L : List P7) (i k : Int) : netS L i k = -netS L k i := by unfold netS; omega
theorem netS_append (L M : List P7) (i k : Int) : netS (L ++ M) i k = netS L i k + netS M i k := by
  unfold netS sentS
  rw [sumS_append, sumS_append]
  omega
theorem dTo_append (L M : List P7) (i : Int) (n : Nat) : dTo (L ++ M) i n = dTo L i n + dTo M i n := by
  induction n with
  | zero => rfl
  | succ n ih => simp only [dTo, ih, netS_append]; omega
theorem spentS_append (L M : List P7) (i : Int) : spentS (L ++ M) i = spentS L i + spentS M i := sumS_append _ _ _
theorem keptV_twice {r x y : Int} (hx : 0 ≤ x) (hy : 0 ≤ y) : keptV (keptV r x) y = keptV r (x + y) := by
  by_cases h : r ≤ x
  · rw [← kept_none h, ← kept_none (show (0 : Int) ≤ y by omega), ← kept_none (show r ≤ x + y by omega)]
  · rw [← kept_some (show x < r by omega)]
    by_cases k : r - x ≤ y
    · rw [← kept_none k, ← kept_none (show r ≤ x + y by omega)]
    · rw [← kept_some (show y < r - x by omega), ← kept_some (show x + y < r by omega)]
      omega
/-- In which order, does not matter. -/
theorem postB_perm (b : Bks) {L M : List P7} (h : L.Perm M) : postB b L = postB b M := by
  have ea : postA b L b.A.length = postA b M b.A.length := by
    funext i
    unfold postA
    rw [dTo_perm h]
    unfold spentS
    rw [sumS_perm _ h]
  have ep : postP b L b.A.length = postP b M b.A.length := by
    funext i
    unfold postP
    refine List.map_congr_left fun k _ => ?_
    rw [netS_perm h]
  unfold postB
  rw [ea, ep]
/-- Two posts, or one. -/
theorem postB_twice (b : Bks) (L M : List P7) (hL : ∀ i : Int, 0 ≤ spentS L i) (hM : ∀ i : Int, 0 ≤ spentS M i) : postB (postB b L) M = postB b (L ++ M) := by
  have hl := postB_len b L
  have ea : (List.range b.A.length).map (postA (postB b L) M b.A.length) = (List.range b.A.length).map (postA b (L ++ M) b.A.length) := by
    refine List.map_congr_left fun i hi => ?_
    have hi := List.mem_range.1 hi
    unfold postA
    rw [postB_acct b L hi]
    unfold postA
    simp only []
    rw [dTo_append, spentS_append, keptV_twice (hL _) (hM _), Int.sub_sub]
  have ep : (List.range b.A.length).map (postP (postB b L) M b.A.length) = (List.range b.A.length).map (postP b (L ++ M) b.A.length) := by
    refine List.map_congr_left fun i hi => ?_
    have hi := List.mem_range.1 hi
    unfold postP
    refine List.map_congr_left fun k hk => ?_
    have hk := List.mem_range.1 hk
    rw [postB_at b L hi hk, netS_append, Int.add_assoc]
  show Bks.mk _ _ _ _ = Bks.mk _ _ _ _
  rw [hl, ea, ep]
  rfl

/-- What fits leaves nobody that sends too low, nor beyond a limit. -/
theorem fits_floor {b : Bks} {L : List P7} (h : fitsB b L = true) {i : Nat} (hi : i < b.A.length) (hs : ¬ plainS L i + spentS L i = 0) :
    0 ≤ (postA b L b.A.length i).1 + (postA b L b.A.length i).2.1 ∧ (0 < plainS L i → (postA b L b.A.length i).2.2 ≤ (postA b L b.A.length i).1 + (postA b L b.A.length i).2.1) ∧
      (∀ k, k < b.A.length → 0 < sentS L i k → at2 b.B i k = -1 ∨ at2 b.P i k + netS L i k ≤ at2 b.B i k) ∧ (b.M.getD i 0 = -1 ∨ netTo b.P i b.A.length + dTo L i b.A.length ≤ b.M.getD i 0) := by
  unfold fitsB at h
  rw [Bool.and_eq_true, decide_eq_true_eq, List.length_eq_zero_iff] at h
  have hno : shortB b L b.A.length i = false := by
    rw [Bool.eq_false_iff]
    intro hy
    have : i ∈ shortL b L := List.mem_filter.2 ⟨List.mem_range.2 hi, hy⟩
    rw [h.2] at this
    simp at this
  unfold shortB at hno
  rw [decide_eq_true hs, Bool.true_and, Bool.or_eq_false_iff, Bool.or_eq_false_iff] at hno
  obtain ⟨h1, h2, h3⟩ := hno
  unfold lowB at h2
  rw [Bool.or_eq_false_iff, decide_eq_false_iff_not, Bool.and_eq_false_iff, decide_eq_false_iff_not, decide_eq_false_iff_not] at h2
  unfold wideB at h3
  rw [Bool.and_eq_false_iff, decide_eq_false_iff_not, decide_eq_false_iff_not] at h3
  unfold postA
  simp only []
  refine ⟨by omega, fun hp => by omega, fun k hk hsk => ?_, by omega⟩
  have h4 : overB b L i k = false := by
    rw [Bool.eq_false_iff]
    intro hy
    rw [List.any_eq_true.2 ⟨k, List.mem_range.2 hk, hy⟩] at h1
    exact Bool.noConfusion h1
  unfold overB at h4
  rw [decide_eq_true hsk, Bool.true_and, Bool.and_eq_false_iff, decide_eq_false_iff_not, decide_eq_false_iff_not] at h4
  omega

/-- What all have together stays. -/
def balTo (A : List A3) : Nat → Int
  | 0 => 0
  | i + 1 => balTo A i + (A.getD i a30).1
def netR (L : List P7) (n : Nat) : List (List Int) := (List.range n).map fun i : Nat => (List.range n).map fun k : Nat => netS L (i : Int) (k : Int)
theorem netR_at (L : List P7) {n i k : Nat} (hi : i < n) (hk : k < n) : at2 (netR L n) i k = netS L i k := by simp [at2, netR, hi, hk]
theorem netR_to (L : List P7) {n i : Nat} (hi : i < n) : ∀ k, k ≤ n → netTo (netR L n) i k = dTo L i k := by
  intro k
  induction k with
  | zero => intro _; rfl
  | succ k ih => intro hk; simp only [netTo, dTo, ih (by omega), netR_at L hi (show k < n by omega)]
theorem netR_sum (L : List P7) (n : Nat) : netSum (netR L n) n n = 0 := netSum_zero fun i k hi hk => by
  rw [netR_at L hi hk, netR_at L hk hi]
  exact netS_turn L i k
theorem balTo_post (b : Bks) (L : List P7) : ∀ i, i ≤ b.A.length → balTo (postB b L).A i = balTo b.A i - netSum (netR L b.A.length) b.A.length i := by
  intro i
  induction i with
  | zero => intro _; simp [balTo, netSum]
  | succ i ih =>
    intro hi
    have e : ((postB b L).A.getD i a30).1 = (b.A.getD i a30).1 - dTo L i b.A.length := by rw [postB_acct b L (by omega)]; rfl
    simp only [balTo, netSum, ih (by omega), e, netR_to L (show i < b.A.length by omega) _ (Nat.le_refl _)]
    omega
theorem balTo_stays (b : Bks) (L : List P7) : balTo (postB b L).A b.A.length = balTo b.A b.A.length := by
  rw [balTo_post b L _ (Nat.le_refl _), netR_sum]
  omega

end Go.Proofs.Ytcdahjkngejkeaa

/-
  Books of n parties that a call made, cell by cell, as functions: what is written into accounts and positions.
-/
namespace Go.Proofs.Ytcdahjkngejkeaa
open Go.RowKit
set_option linter.unusedVariables false
set_option linter.unusedSimpArgs false

def mkA (n : Nat) (fA : Nat → A3) : List A3 := (List.range n).map fA
def mkP (n : Nat) (fP : Nat → Nat → Int) : List (List Int) := (List.range n).map fun i => (List.range n).map (fP i)
theorem mkA_len (n : Nat) (fA : Nat → A3) : (mkA n fA).length = n := by simp [mkA]
theorem mkP_len (n : Nat) (fP : Nat → Nat → Int) : (mkP n fP).length = n := by simp [mkP]
theorem mkA_at {n i : Nat} (fA : Nat → A3) (h : i < n) : (mkA n fA).getD i a30 = fA i := by simp [mkA, h]
theorem mkP_row {n i : Nat} (fP : Nat → Nat → Int) (h : i < n) : (mkP n fP).getD i [] = (List.range n).map (fP i) := by simp [mkP, h]
theorem mkP_at {n i k : Nat} (fP : Nat → Nat → Int) (h : i < n) (hk : k < n) : at2 (mkP n fP) i k = fP i k := by
  unfold at2
  rw [mkP_row fP h]
  simp [hk]
theorem mkA_congr {n : Nat} {f g : Nat → A3} (h : ∀ i, i < n → f i = g i) : mkA n f = mkA n g := List.map_congr_left fun i hi => h i (List.mem_range.1 hi)
theorem mkP_congr {n : Nat} {f g : Nat → Nat → Int} (h : ∀ i k, i < n → k < n → f i k = g i k) : mkP n f = mkP n g :=
  List.map_congr_left fun i hi => List.map_congr_left fun k hk => h i k (List.mem_range.1 hi) (List.mem_range.1 hk)
theorem mkA_self (A : List A3) : mkA A.length (fun i => A.getD i a30) = A := by
  refine List.ext_getElem (by simp [mkA]) fun i h1 h2 => ?_
  simp [mkA, h2]
theorem mkP_self {P : List (List Int)} (hs : ∀ i, i < P.length → (P.getD i []).length = P.length) : mkP P.length (at2 P) = P := by
  refine List.ext_getElem (by simp [mkP]) fun i h1 h2 => ?_
  have hi := hs i h2
  simp [h2] at hi
  refine List.ext_getElem (by simp [mkP, hi]) fun k h3 h4 => ?_
  simp [mkP, at2, h2, h4]

/-- An account, a position is written. -/
def updA (fA : Nat → A3) (i : Nat) (a : A3) : Nat → A3 := fun k => if k = i then a else fA k
def updP (fP : Nat → Nat → Int) (i j : Nat) (y : Int) : Nat → Nat → Int := fun k l => if k = i ∧ l = j then y else fP k l
theorem accL_get (A : List A3) (j : Nat) (h : j < A.length * 3) : (accL A)[j]? = some (if j % 3 = 0 then .int .i64 (A.getD (j / 3) a30).1 else if j % 3 = 1 then .int .i64 (A.getD (j / 3) a30).2.1 else .int .i64 (A.getD (j / 3) a30).2.2) := by
  obtain ⟨c0, c1, c2⟩ := accL_at A (j / 3) (by omega)
  rcases (by omega : j % 3 = 0 ∨ j % 3 = 1 ∨ j % 3 = 2) with e | e | e
  · rw [if_pos e, ← c0]; congr 1; omega
  · rw [if_neg (by omega), if_pos e, ← c1]; congr 1; omega
  · rw [if_neg (by omega), if_neg (by omega), ← c2]; congr 1; omega
theorem accL_upd {n i : Nat} (fA : Nat → A3) (hi : i < n) (j : Nat) (hj : j < 3) (a : A3) (u : Value)
    (h0 : j = 0 → u = .int .i64 a.1 ∧ a.2 = (fA i).2) (h1 : j = 1 → u = .int .i64 a.2.1 ∧ a.1 = (fA i).1 ∧ a.2.2 = (fA i).2.2) (h2 : j = 2 → u = .int .i64 a.2.2 ∧ a.1 = (fA i).1 ∧ a.2.1 = (fA i).2.1) :
    accL (mkA n (updA fA i a)) = (accL (mkA n fA)).set (i * 3 + j) u := by
  refine List.ext_getElem? fun k => ?_
  by_cases hk : k < n * 3
  · rw [accL_get _ k (by rw [mkA_len]; exact hk), List.getElem?_set]
    have hk3 : k / 3 < n := by omega
    rw [mkA_at _ hk3]
    by_cases he : i * 3 + j = k
    · have hlen : i * 3 + j < (accL (mkA n fA)).length := by rw [accL_length, mkA_len]; omega
      rw [if_pos he, if_pos hlen]
      have hk1 : k / 3 = i := by omega
      have hk2 : k % 3 = j := by omega
      rw [hk1, hk2]
      simp only [updA, if_pos]
      rcases (by omega : j = 0 ∨ j = 1 ∨ j = 2) with rfl | rfl | rfl
      · simp [(h0 rfl).1]
      · simp [(h1 rfl).1]
      · simp [(h2 rfl).1]
    · rw [if_neg he, accL_get _ k (by rw [mkA_len]; exact hk), mkA_at _ hk3]
      by_cases hki : k / 3 = i
      · have hkj : ¬ k % 3 = j := by omega
        rw [hki]
        simp only [updA, if_pos]
        rcases (by omega : j = 0 ∨ j = 1 ∨ j = 2) with rfl | rfl | rfl
        · rw [if_neg hkj, if_neg hkj, (h0 rfl).2]
        · obtain ⟨_, e1, e2⟩ := h1 rfl
          rw [e1, e2]
          simp [hkj]
        · obtain ⟨_, e1, e2⟩ := h2 rfl
          rw [e1, e2]
          rcases (by omega : k % 3 = 0 ∨ k % 3 = 1) with e | e <;> simp [e]
      · simp only [updA, if_neg hki]
  · rw [List.getElem?_eq_none (by rw [accL_length, mkA_len]; omega), List.getElem?_eq_none (by rw [List.length_set, accL_length, mkA_len]; omega)]

/-- Of what was there only blocks from B on and below T may have turned. -/
structure Within (B T : Nat) (w w' : World) : Prop where
  os : w'.os = w.os
  tape : w'.tape = w.tape
  output : w'.output = w.output
  size : w.heap.size ≤ w'.heap.size
  block : ∀ k, k < w.heap.size → k < B ∨ T ≤ k → w'.heap[k]? = w.heap[k]?
theorem Within.refl (B T : Nat) (w : World) : Within B T w w := ⟨rfl, rfl, rfl, Nat.le_refl _, fun _ _ _ => rfl⟩
theorem Within.trans {B T : Nat} {a b c : World} (h : Within B T a b) (k : Within B T b c) : Within B T a c :=
  ⟨k.os.trans h.os, k.tape.trans h.tape, k.output.trans h.output, Nat.le_trans h.size k.size, fun i hi ho => (k.block i (Nat.lt_of_lt_of_le hi h.size) ho).trans (h.block i hi ho)⟩
theorem Within.of {B T : Nat} {w w' : World} (h : Below w.heap.size w w') : Within B T w w' := ⟨h.os, h.tape, h.output, h.size, fun k hk _ => h.block k hk⟩
theorem Within.below {B T : Nat} {w w' : World} (h : Within B T w w') (hB : B ≤ w.heap.size) : Below B w w' := ⟨h.os, h.tape, h.output, h.size, fun k hk => h.block k (by omega) (.inl hk)⟩
theorem Within.set {B T : Nat} {a w : World} (h : Within B T a w) {p : Addr} (hp : B ≤ p.block) (ht : p.block < T) (u : Value) : Within B T a (w.setCell p u) :=
  h.trans ⟨rfl, rfl, rfl, by simp [World.setCell], fun k _ ho => heap_setCell_other w p k u (by omega)⟩
theorem Within.cell {B T : Nat} {w w' : World} (h : Within B T w w') {p : Addr} {v : Value} (hc : w.cell? p = some v) (ho : p.block < B ∨ T ≤ p.block) : w'.cell? p = some v := by
  have : w'.cell? p = w.cell? p := by
    unfold World.cell?
    rw [h.block _ (block_lt_of_cell hc) ho]
  rw [this]
  exact hc

/-- Where books of n parties lie that a call made. -/
structure PLay (w : World) (B T : Nat) (x : BA) (b : Bks) (gA sp : Nat) (g cg : Nat → Nat) (n : Nat) (fA : Nat → A3) (fP : Nat → Nat → Int) : Prop where
  eA : x.aA = some ⟨gA, 0, none⟩
  nA : x.nA = n
  eP : x.aP = some ⟨sp, 0, none⟩
  nP : x.nP = n
  acc : w.ownsRow B 38 3 (.slice (some ⟨gA, 0, none⟩) n x.cA) n (accL (mkA n fA))
  rest : ∃ S vb vs, B ≤ S ∧ MadeI w B (.slice x.aB x.nB x.cB) vb b.B ∧ Low S (.slice x.aB x.nB x.cB) ∧ (∀ i, i < b.B.length → Low S (vb.getD i undef)) ∧ w.ownsRow B 2 1 (.slice x.aM x.nM x.cM) b.M.length (b.M.map (Value.int .i64)) ∧ Low S (.slice x.aM x.nM x.cM) ∧
    MadeI w S (.slice (some ⟨sp, 0, none⟩) n x.cP) vs (mkP n fP) ∧ gA < S ∧ ∀ i, i < n → vs.getD i undef = .slice (some ⟨g i, 0, none⟩) n (cg i)
  wf : W64 b.M
  top : gA < T ∧ sp < T ∧ ∀ i, i < n → g i < T
  le : T ≤ w.heap.size

section
variable {w : World} {B T : Nat} {x : BA} {b : Bks} {gA sp : Nat} {g cg : Nat → Nat} {n : Nat} {fA : Nat → A3} {fP : Nat → Nat → Int}

theorem PLay.mk' {S : Nat} (h : NewBkA w B S x b) (gd : Good b) : ∃ gA sp g cg, PLay w B w.heap.size x b gA sp g cg b.A.length (fun i => b.A.getD i a30) (at2 b.P) := by
  obtain ⟨aA, nA, cA, aB, nB, cB, aM, nM, cM, aP, nP, cP⟩ := x
  obtain ⟨vs, hp⟩ := h.pos
  obtain ⟨vb, hb, lb, lbs⟩ := h.bil
  have n1 := gd.n1
  have ho := h.acc
  obtain ⟨gA, c1, hv, h1, h2⟩ := World.ownsRow.form ho (by omega)
  simp at hv
  obtain ⟨rfl, rfl, rfl⟩ := hv
  have hq := hp.own
  have lp := gd.pos
  obtain ⟨sp, c2, hv, h3, h4⟩ := World.ownsRow.form hq (by omega)
  simp at hv
  obtain ⟨rfl, rfl, rfl⟩ := hv
  have fr : ∀ i, i < b.A.length → ∃ gg cc, vs.getD i undef = .slice (some ⟨gg, 0, none⟩) b.A.length cc ∧ gg < w.heap.size := by
    intro i hi
    have hr := hp.row i (by omega)
    rw [gd.poss i hi] at hr
    obtain ⟨gg, cc, e, _, hlt⟩ := World.ownsRow.form hr (by omega)
    exact ⟨gg, cc, e, hlt⟩
  refine ⟨gA, sp, fun i => ((vs.getD i undef).ownBlock).getD 0, fun i => (match vs.getD i undef with | .slice _ _ c => c | _ => 0), ⟨rfl, rfl, rfl, lp, by rw [mkA_self]; exact ho, ?_, h.wf, ⟨h2, h4, fun i hi => ?_⟩, Nat.le_refl _⟩⟩
  · refine ⟨S, vb, vs, h.up, hb, lb, lbs, h.mul, h.lowM, ?_, h.lowA gA rfl, fun i hi => ?_⟩
    · have e : mkP b.A.length (at2 b.P) = b.P := by rw [← lp]; exact mkP_self (fun i hi => by rw [lp] at hi ⊢; exact gd.poss i hi)
      rw [e]
      have := hp
      simp only [lp] at this
      exact this
    · obtain ⟨gg, cc, e, _⟩ := fr i hi
      rw [e]
      rfl
  · obtain ⟨gg, cc, e, hlt⟩ := fr i hi
    rw [e]
    exact hlt

theorem PLay.below (h : PLay w B T x b gA sp g cg n fA fP) {w' : World} (k : Below w.heap.size w w') : PLay w' B T x b gA sp g cg n fA fP := by
  obtain ⟨S, vb, vs, h1, h2, h3, h4, h5, h6, h7, h8, h9⟩ := h.rest
  exact ⟨h.eA, h.nA, h.eP, h.nP, own_below h.acc k, ⟨S, vb, vs, h1, h2.below k, h3, h4, own_below h5 k, h6, h7.below k, h8, h9⟩, h.wf, h.top, Nat.le_trans h.le k.size⟩
theorem PLay.congr (h : PLay w B T x b gA sp g cg n fA fP) {fA' : Nat → A3} {fP' : Nat → Nat → Int} (hA : ∀ i, i < n → fA i = fA' i) (hP : ∀ i k, i < n → k < n → fP i k = fP' i k) : PLay w B T x b gA sp g cg n fA' fP' := by
  obtain ⟨S, vb, vs, h1, h2, h3, h4, h5, h6, h7, h8, h9⟩ := h.rest
  exact ⟨h.eA, h.nA, h.eP, h.nP, by rw [← mkA_congr hA]; exact h.acc, ⟨S, vb, vs, h1, h2, h3, h4, h5, h6, by rw [← mkP_congr hP]; exact h7, h8, h9⟩, h.wf, h.top, h.le⟩
theorem PLay.new (h : PLay w B T x b gA sp g cg n fA fP) : NewBk w B x ⟨mkA n fA, b.B, b.M, mkP n fP⟩ := by
  obtain ⟨aA, nA, cA, aB, nB, cB, aM, nM, cM, aP, nP, cP⟩ := x
  obtain ⟨S, vb, vs, h1, h2, h3, h4, h5, h6, h7, h8, h9⟩ := h.rest
  have e1 := h.eA
  have e2 := h.nA
  have e3 := h.eP
  have e4 := h.nP
  simp only at e1 e2 e3 e4
  subst e1 e2 e3 e4
  exact ⟨by rw [mkA_len]; exact h.acc, ⟨vb, h2⟩, h5, ⟨vs, h7.base h1⟩, h.wf⟩
theorem PLay.base (h : PLay w B T x b gA sp g cg n fA fP) : B ≤ gA ∧ (0 < n → B ≤ sp) ∧ ∀ i, i < n → B ≤ g i := by
  obtain ⟨S, vb, vs, h1, h2, h3, h4, h5, h6, h7, h8, h9⟩ := h.rest
  refine ⟨(own_row_block h.acc).1, fun h0 => ?_, fun i hi => ?_⟩
  · have := h7.own
    rw [mkP_len] at this
    have := (own_row_block this).1
    omega
  · have := (h7.row i (by rw [mkP_len]; exact hi)).lt (g i) (by rw [h9 i hi]; rfl)
    omega
theorem PLay.acct (h : PLay w B T x b gA sp g cg n fA fP) {i : Nat} (hi : i < n) : w.cell? ⟨gA, i * 3, none⟩ = some (.int .i64 (fA i).1) ∧ w.cell? ⟨gA, i * 3 + 1, none⟩ = some (.int .i64 (fA i).2.1) ∧ w.cell? ⟨gA, i * 3 + 2, none⟩ = some (.int .i64 (fA i).2.2) := by
  obtain ⟨_, _, hc⟩ := own_row_block h.acc
  obtain ⟨c0, c1, c2⟩ := accL_at (mkA n fA) i (by rw [mkA_len]; exact hi)
  rw [mkA_at fA hi] at c0 c1 c2
  exact ⟨(hc _ (by omega)).trans c0, (hc _ (by omega)).trans c1, (hc _ (by omega)).trans c2⟩
theorem PLay.freeA (h : PLay w B T x b gA sp g cg n fA fP) (j : Nat) : w.frozen? ⟨gA, j, none⟩ = false := (own_row_block h.acc).2.1 j
theorem PLay.spine (h : PLay w B T x b gA sp g cg n fA fP) {i : Nat} (hi : i < n) : w.cell? ⟨sp, i, none⟩ = some (.slice (some ⟨g i, 0, none⟩) n (cg i)) := by
  obtain ⟨S, vb, vs, h1, h2, h3, h4, h5, h6, h7, h8, h9⟩ := h.rest
  have ho := h7.own
  rw [mkP_len] at ho
  obtain ⟨_, _, hc⟩ := own_row_block ho
  rw [hc i (by omega), ← h9 i hi]
  have := ho.1
  simp [List.getD_eq_getElem?_getD, show i < vs.length by omega]
theorem PLay.row (h : PLay w B T x b gA sp g cg n fA fP) {i : Nat} (hi : i < n) : w.ownsRow B 2 1 (.slice (some ⟨g i, 0, none⟩) n (cg i)) n (((List.range n).map (fP i)).map (Value.int .i64)) := by
  obtain ⟨S, vb, vs, h1, h2, h3, h4, h5, h6, h7, h8, h9⟩ := h.rest
  have hr := h7.row i (by rw [mkP_len]; exact hi)
  rw [h9 i hi, mkP_row fP hi, List.length_map, List.length_range] at hr
  exact own_base hr h1
theorem PLay.at' (h : PLay w B T x b gA sp g cg n fA fP) {i k : Nat} (hi : i < n) (hk : k < n) : w.cell? ⟨g i, k, none⟩ = some (.int .i64 (fP i k)) := by
  rw [(own_row_block (h.row hi)).2.2 k (by omega)]
  simp [hk]
theorem PLay.freeP (h : PLay w B T x b gA sp g cg n fA fP) {i : Nat} (hi : i < n) (j : Nat) : w.frozen? ⟨g i, j, none⟩ = false := (own_row_block (h.row hi)).2.1 j
theorem PLay.wrap (h : PLay w B T x b gA sp g cg n fA fP) {i k : Nat} (hi : i < n) (hk : k < n) : IntKind.i64.wrap (fP i k) = fP i k := by
  obtain ⟨S, vb, vs, h1, h2, h3, h4, h5, h6, h7, h8, h9⟩ := h.rest
  have := getD_w64 h7.bs i
  rw [mkP_row fP hi] at this
  exact this _ (List.mem_map.2 ⟨k, List.mem_range.2 hk, rfl⟩)

/-- A number of an account is written. -/
theorem PLay.setA (h : PLay w B T x b gA sp g cg n fA fP) {i : Nat} (hi : i < n) (j : Nat) (hj : j < 3) (a : A3) (u : Value)
    (h0 : j = 0 → u = .int .i64 a.1 ∧ a.2 = (fA i).2) (h1 : j = 1 → u = .int .i64 a.2.1 ∧ a.1 = (fA i).1 ∧ a.2.2 = (fA i).2.2) (h2 : j = 2 → u = .int .i64 a.2.2 ∧ a.1 = (fA i).1 ∧ a.2.1 = (fA i).2.1) :
    PLay (w.setCell ⟨gA, i * 3 + j, none⟩ u) B T x b gA sp g cg n (updA fA i a) fP := by
  obtain ⟨S, vb, vs, k1, k2, k3, k4, k5, k6, k7, k8, k9⟩ := h.rest
  have hs := h.acc.stored (i * 3 + j) u
  rw [← accL_upd fA hi j hj a u h0 h1 h2] at hs
  obtain ⟨cur, hgA⟩ : ∃ cur, w.heap[gA]? = some (.cells cur 38 (0, 0)) := by
    rcases h.acc.2 with ⟨hv, _⟩ | ⟨g', cap, cur, hv, _, hg, _⟩
    · simp at hv
    · simp at hv
      obtain ⟨rfl, rfl⟩ := hv
      exact ⟨cur, hg⟩
  have ne : ∀ {t : TypeId} {B' s' n' : Nat} {v' : Value} {xs' : List Value}, w.ownsRow B' t s' v' n' xs' → t ≠ 38 → (w.setCell ⟨gA, i * 3 + j, none⟩ u).ownsRow B' t s' v' n' xs' := fun ho' ht => by
    refine ho'.kept hs.2 ?_
    rcases ho'.2 with ⟨hv, _⟩ | ⟨g', cap', cur', hv', hb', hg', _⟩
    · left; rw [hv]; rfl
    · right
      rw [hv']
      intro e
      have e : g' = gA := by simpa [Value.ownBlock] using e
      subst e
      rw [hgA] at hg'
      simp at hg'
      exact ht hg'.2.symm
  have mk : ∀ {B' : Nat} {v : Value} {vs : List Value} {R : List (List Int)}, MadeI w B' v vs R → MadeI (w.setCell ⟨gA, i * 3 + j, none⟩ u) B' v vs R := fun hm =>
    ⟨ne hm.own (by decide), fun i hi => ne (hm.row i hi) (by decide), hm.spine, hm.rows, hm.bs⟩
  exact ⟨h.eA, h.nA, h.eP, h.nP, hs.1, ⟨S, vb, vs, k1, mk k2, k3, k4, ne k5 (by decide), k6, mk k7, k8, k9⟩, h.wf, h.top, by rw [show (w.setCell ⟨gA, i * 3 + j, none⟩ u).heap.size = w.heap.size by simp [World.setCell]]; exact h.le⟩

theorem low_ne {S : Nat} {v : Value} (h : Low S v) {g : Nat} (hg : S ≤ g) : v.ownBlock = none ∨ v.ownBlock ≠ some g := by
  cases hv : v.ownBlock with
  | none => exact .inl rfl
  | some k => exact .inr fun e => by have := h k hv; simp at e; omega

/-- A position is written. -/
theorem PLay.setP (h : PLay w B T x b gA sp g cg n fA fP) {i k : Nat} (hi : i < n) (hk : k < n) {y : Int} (hy : IntKind.i64.wrap y = y) :
    PLay (w.setCell ⟨g i, k, none⟩ (.int .i64 y)) B T x b gA sp g cg n fA (updP fP i k y) := by
  obtain ⟨S, vb, vs, k1, k2, k3, k4, k5, k6, k7, k8, k9⟩ := h.rest
  have hr := k7.row i (by rw [mkP_len]; exact hi)
  rw [k9 i hi, mkP_row fP hi, List.length_map, List.length_range] at hr
  have hst := hr.stored k (.int .i64 y)
  have hgS : S ≤ g i := (own_row_block hr).1
  have low : ∀ {t : TypeId} {B' s' n' : Nat} {v' : Value} {xs' : List Value}, w.ownsRow B' t s' v' n' xs' → Low S v' → (w.setCell ⟨g i, k, none⟩ (.int .i64 y)).ownsRow B' t s' v' n' xs' := fun ho' hl => ho'.kept hst.2 (low_ne hl hgS)
  have hvi : (vs.getD i undef).ownBlock = some (g i) := by rw [k9 i hi]; rfl
  have lP := mkP_len n fP
  refine ⟨h.eA, h.nA, h.eP, h.nP, low h.acc (fun gg hg => by simp [Value.ownBlock] at hg; omega), ⟨S, vb, vs, k1, ⟨low k2.own k3, fun j hj => low (k2.row j hj) (k4 j hj), k2.spine, k2.rows, k2.bs⟩, k3, k4, low k5 k6, k6, ⟨?_, fun j hj => ?_, fun j hj => k7.spine j (by rw [mkP_len] at hj ⊢; exact hj), fun j l hj hl => k7.rows j l (by rw [mkP_len] at hj ⊢; exact hj) (by rw [mkP_len] at hl ⊢; exact hl), fun z hz => ?_⟩, k8, k9⟩, h.wf, h.top, by rw [show (w.setCell ⟨g i, k, none⟩ (.int .i64 y)).heap.size = w.heap.size by simp [World.setCell]]; exact h.le⟩
  · have ho := k7.own
    rw [mkP_len] at ho ⊢
    refine ho.kept hst.2 ?_
    rcases k7.spine i (by rw [mkP_len]; exact hi) with e | e
    · rw [hvi] at e; cases e
    · right; rw [← hvi]; exact fun e' => e e'.symm
  · have hjn : j < n := by rw [mkP_len] at hj; exact hj
    rw [mkP_row _ hjn, List.length_map, List.length_range]
    by_cases hji : j = i
    · subst hji
      rw [k9 j hjn]
      have e : ((List.range n).map (updP fP j k y j)).map (Value.int .i64) = (((List.range n).map (fP j)).map (Value.int .i64)).set k (.int .i64 y) := by
        refine List.ext_getElem? fun l => ?_
        rw [List.getElem?_set]
        by_cases hl : l < n
        · by_cases hlk : k = l
          · subst hlk
            simp [hl, updP]
          · have hlk' : ¬ l = k := fun e => hlk e.symm
            simp [hl, updP, hlk, hlk']
        · rw [List.getElem?_eq_none (by simp; omega), if_neg (by omega), List.getElem?_eq_none (by simp; omega)]
      rw [e]
      exact hst.1
    · have e : (List.range n).map (updP fP i k y j) = (List.range n).map (fP j) := List.map_congr_left fun l _ => by simp [updP, hji]
      rw [e]
      have hrj := k7.row j (by rw [mkP_len]; exact hjn)
      rw [mkP_row fP hjn, List.length_map, List.length_range] at hrj
      refine hrj.kept hst.2 ?_
      have := k7.rows j i (by rw [mkP_len]; exact hjn) (by rw [mkP_len]; exact hi) hji
      rw [hvi] at this
      exact this
  · obtain ⟨j, hj, rfl⟩ := List.mem_map.1 hz
    intro v hv
    obtain ⟨l, hl, rfl⟩ := List.mem_map.1 hv
    unfold updP
    split
    · exact hy
    · exact h.wrap (List.mem_range.1 hj) (List.mem_range.1 hl)
end

end Go.Proofs.Ytcdahjkngejkeaa

/-
  post: a payment moves.
-/
namespace Go.Proofs.Ytcdahjkngejkeaa
open Go.RowKit
set_option linter.unusedVariables false
set_option linter.unusedSimpArgs false



end Go.Proofs.Ytcdahjkngejkeaa

/-
  What one payment more moves; one party, one other more: as plain functions.
-/
namespace Go.Proofs.Ytcdahjkngejkeaa
open Go.RowKit
set_option linter.unusedVariables false
set_option linter.unusedSimpArgs false

theorem netS_one (p : P7) (i k : Int) : netS [p] i k = sentG i k p - sentG k i p := by unfold netS sentS sumS sumS; omega
theorem dTo_one {p : P7} {f t : Nat} (hf : p.fr = f) (ht : p.to = t) (hne : ¬ f = t) (i : Nat) (m : Nat) : dTo [p] i m = (if i = f ∧ t < m then p.am else 0) - (if i = t ∧ f < m then p.am else 0) := by
  induction m with
  | zero => simp [dTo]
  | succ m ih =>
    simp only [dTo, ih, netS_one]
    unfold sentG
    rw [hf, ht]
    have e1 : ((f : Int) = (i : Int) ∧ (t : Int) = (m : Int)) ↔ (f = i ∧ t = m) := by omega
    have e2 : ((f : Int) = (m : Int) ∧ (t : Int) = (i : Int)) ↔ (f = m ∧ t = i) := by omega
    simp only [e1, e2]
    by_cases h1 : i = f
    · have h2 : ¬ i = t := by omega
      by_cases h3 : t = m
      · rw [if_neg (by omega), if_neg (by omega), if_pos (by omega), if_neg (by omega), if_pos (by omega), if_neg (by omega)]; omega
      · rw [if_neg (show ¬ (f = i ∧ t = m) by omega), if_neg (show ¬ (f = m ∧ t = i) by omega), if_neg (show ¬ (i = t ∧ f < m) by omega), if_neg (show ¬ (i = t ∧ f < m + 1) by omega)]
        by_cases h4 : t < m
        · rw [if_pos ⟨h1, h4⟩, if_pos ⟨h1, by omega⟩]; omega
        · rw [if_neg (by omega), if_neg (by omega)]; omega
    · by_cases h2 : i = t
      · by_cases h3 : f = m
        · rw [if_neg (show ¬ (f = i ∧ t = m) by omega), if_pos (show f = m ∧ t = i by omega), if_neg (show ¬ (i = f ∧ t < m) by omega), if_neg (show ¬ (i = t ∧ f < m) by omega), if_neg (show ¬ (i = f ∧ t < m + 1) by omega), if_pos (show i = t ∧ f < m + 1 by omega)]; omega
        · rw [if_neg (show ¬ (f = i ∧ t = m) by omega), if_neg (show ¬ (f = m ∧ t = i) by omega), if_neg (show ¬ (i = f ∧ t < m) by omega), if_neg (show ¬ (i = f ∧ t < m + 1) by omega)]
          by_cases h4 : f < m
          · rw [if_pos ⟨h2, h4⟩, if_pos ⟨h2, by omega⟩]; omega
          · rw [if_neg (by omega), if_neg (by omega)]; omega
      · rw [if_neg (show ¬ (f = i ∧ t = m) by omega), if_neg (show ¬ (f = m ∧ t = i) by omega), if_neg (show ¬ (i = f ∧ t < m) by omega), if_neg (show ¬ (i = t ∧ f < m) by omega), if_neg (show ¬ (i = f ∧ t < m + 1) by omega), if_neg (show ¬ (i = t ∧ f < m + 1) by omega)]; omega
theorem keptV_zero {r : Int} (h : 0 ≤ r) : keptV r 0 = r := by unfold keptV; split <;> omega
theorem spentS_one (p : P7) (i : Int) : spentS [p] i = spentG i p := by unfold spentS sumS sumS; omega

/-- None posted. -/
theorem postA_nil (b : Bks) (n : Nat) (hr : ∀ i, i < n → 0 ≤ (b.A.getD i a30).2.2) : ∀ i, i < n → b.A.getD i a30 = postA b [] n i := by
  intro i hi
  have hd : ∀ m, dTo [] (i : Int) m = 0 := by
    intro m
    induction m with
    | zero => rfl
    | succ m ih => simp [dTo, ih, netS, sentS, sumS]
  unfold postA
  rw [hd, Int.sub_zero]
  show _ = (_, _, keptV _ (spentS [] _))
  rw [show spentS [] (i : Int) = 0 from rfl, keptV_zero (hr i hi)]
theorem postP_nil (b : Bks) (i k : Nat) : at2 b.P i k = at2 b.P i k + netS [] i k := by simp [netS, sentS, sumS]

/-- What is posted of good books can be held. -/
theorem Good.reserve {b : Bks} (g : Good b) : ∀ i, i < b.A.length → 0 ≤ (b.A.getD i a30).2.2 ∧ (b.A.getD i a30).2.2 ≤ 2305843009213693952 ∧ -4611686018427387904 < (b.A.getD i a30).1 ∧ (b.A.getD i a30).1 < 4611686018427387904 := by
  intro i hi
  have := g.acc i hi
  unfold acctAt at this
  rw [acctB_yes] at this
  omega
theorem post_range {b : Bks} (g : Good b) {L : List P7} (h : MvPays L) (hl : L.length ≤ 64) : ∀ i, i < b.A.length → -5000000000000000000 ≤ (postA b L b.A.length i).1 ∧ (postA b L b.A.length i).1 ≤ 5000000000000000000 ∧ 0 ≤ (postA b L b.A.length i).2.2 ∧ (postA b L b.A.length i).2.2 ≤ 2305843009213693952 := by
  intro i hi
  have h1 := g.reserve i hi
  have h2 := dTo_range h hl (i : Int) b.A.length
  have h3 := g.n6
  have h4 := keptV_range h1.1 (h.spent hl (i : Int)).1
  unfold postA
  simp only []
  have h5 : (b.A.length * 70368744177664 : Int) ≤ 6 * 70368744177664 := by
    have : (b.A.length : Int) ≤ 6 := by omega
    omega
  omega
theorem post_pos {b : Bks} (g : Good b) {L : List P7} (h : MvPays L) (hl : L.length ≤ 64) : ∀ i k, i < b.A.length → k < b.A.length → -100000000000000000 ≤ at2 b.P i k + netS L i k ∧ at2 b.P i k + netS L i k ≤ 100000000000000000 := by
  intro i k hi hk
  have h1 := posB_yes (g.may i k hi hk)
  have h2 := netS_range h hl (i : Int) (k : Int)
  omega
theorem postB_mk (b : Bks) (L : List P7) : postB b L = ⟨mkA b.A.length (postA b L b.A.length), b.B, b.M, mkP b.A.length fun i k => at2 b.P i k + netS L i k⟩ := rfl

end Go.Proofs.Ytcdahjkngejkeaa

/-
  post.mayBe, post.Post.
-/
namespace Go.Proofs.Ytcdahjkngejkeaa
open Go.RowKit
set_option linter.unusedVariables false
set_option linter.unusedSimpArgs false


theorem Good.small {b : Bks} (g : Good b) : Small b := by
  have n6 := g.n6
  refine ⟨by omega, by rw [g.bil]; omega, by rw [g.mul]; omega, by rw [g.pos]; omega, fun z hz => ?_, fun z hz => ?_⟩
  · obtain ⟨i, hi, rfl⟩ := List.getElem_of_mem hz
    have := g.bils i (by rw [← g.bil]; exact hi)
    simp [hi] at this
    omega
  · obtain ⟨i, hi, rfl⟩ := List.getElem_of_mem hz
    have := g.poss i (by rw [← g.pos]; exact hi)
    simp [hi] at this
    omega
/-- Books are laid over a variable. -/
theorem store_books {ops : Array Oper} {rest : List Oper} {o : Oper} {a : Act} {w : World} {Q : Exit → Act → World → Prop} (hgd : o.guard = none) (x y : Operand) (ho : o.op = .store 26 x y) (z : Nat) (k : BA) (hx : a.eval x = .pointer (some ⟨z, 0, none⟩)) (hy : a.eval y = k.val)
    (cs : Array Value) (hg : w.heap[z]? = some (.cells cs 26 (0, 0))) (hs : cs.size = 4)
    (h : wpList Try.prog ops Q rest (a.put o.dst undef) (w.setRow z #[.slice k.aA k.nA k.cA, .slice k.aB k.nB k.cB, .slice k.aM k.nM k.cM, .slice k.aP k.nP k.cP])) : wpList Try.prog ops Q (o :: rest) a w :=
  wpList_store_row hgd 26 x y ho z _ hx hy _ _ hg booksSize (by simp [hs]) (by simp [Value.oneCell']) h
theorem box_set {w : World} {z : Nat} {cs : Array Value} (hg : w.heap[z]? = some (.cells cs 26 (0, 0))) (k : BA) : Box4 (w.setRow z #[.slice k.aA k.nA k.cA, .slice k.aB k.nB k.cB, .slice k.aM k.nM k.cM, .slice k.aP k.nP k.cP]) z k := by
  have hr := setRow_heap w z _ #[.slice k.aA k.nA k.cA, .slice k.aB k.nB k.cB, .slice k.aM k.nM k.cM, .slice k.aP k.nP k.cP] _ _ hg
  refine ⟨?_, ?_, ?_, ?_⟩ <;> (rw [cell_of_row _ _ _ _ _ _ hr]; rfl)
/-- What Post leaves. -/
def PostEnd (w : World) (b : Bks) (L : List P7) (e : Ending) (w' : World) : Prop := ∃ y : BA, e = .returned (.tuple #[y.val, .int .i64 (postE b L)]) ∧ NewBk w' w.heap.size y (postR b L) ∧ Below w.heap.size w w'
theorem post_no {b : Bks} {L : List P7} (h : allB b L = false) : postE b L = 1 ∧ postR b L = b := by simp [postE, postR, h]
theorem post_over {b : Bks} {L : List P7} (h : allB b L = true) (k : booksB (postB b L) = false) : postE b L = 8 ∧ postR b L = b := by simp [postE, postR, h, k]
theorem post_yes {b : Bks} {L : List P7} (h : allB b L = true) (k : booksB (postB b L) = true) : postE b L = 0 ∧ postR b L = postB b L := by simp [postE, postR, h, k]


end Go.Proofs.Ytcdahjkngejkeaa

/-
  giroref16.Post.
-/
namespace Go.Proofs.Ytcdahjkngejkeaa
open Go.RowKit
set_option linter.unusedVariables false
set_option linter.unusedSimpArgs false

/-- Ahead of party i; of it, and of its k-th other one. -/
def outA (b : Bks) (L : List P7) (n i : Nat) : Nat → A3 := fun j => if j < i then postA b L n j else b.A.getD j a30
def outP (b : Bks) (L : List P7) (i : Nat) : Nat → Nat → Int := fun j l => at2 b.P j l + if j < i then netS L j l else 0
def inA (b : Bks) (L : List P7) (n i k : Nat) : Nat → A3 := fun j => if j < i then postA b L n j else if j = i then ((b.A.getD i a30).1 - dTo L i k, (b.A.getD i a30).2.1, keptV (b.A.getD i a30).2.2 (spentS L i)) else b.A.getD j a30
def inP (b : Bks) (L : List P7) (i k : Nat) : Nat → Nat → Int := fun j l => at2 b.P j l + if j < i ∨ (j = i ∧ l < k) then netS L j l else 0
theorem outA_at (b : Bks) (L : List P7) (n i : Nat) : outA b L n i i = b.A.getD i a30 := by unfold outA; rw [if_neg (Nat.lt_irrefl _)]
theorem inA_at (b : Bks) (L : List P7) (n i k : Nat) : inA b L n i k i = ((b.A.getD i a30).1 - dTo L i k, (b.A.getD i a30).2.1, keptV (b.A.getD i a30).2.2 (spentS L i)) := by unfold inA; rw [if_neg (Nat.lt_irrefl _), if_pos rfl]
theorem inP_at (b : Bks) (L : List P7) (i k : Nat) : inP b L i k i k = at2 b.P i k := by
  unfold inP
  have h : ¬ (i < i ∨ (i = i ∧ k < k)) := by omega
  rw [if_neg h, Int.add_zero]
theorem outA_zero (b : Bks) (L : List P7) (n j : Nat) : b.A.getD j a30 = outA b L n 0 j := by unfold outA; rw [if_neg (Nat.not_lt_zero _)]
theorem outP_zero (b : Bks) (L : List P7) (j l : Nat) : at2 b.P j l = outP b L 0 j l := by unfold outP; rw [if_neg (Nat.not_lt_zero _), Int.add_zero]
theorem in_start (b : Bks) (L : List P7) (n i j : Nat) : updA (outA b L n i) i ((b.A.getD i a30).1, (b.A.getD i a30).2.1, keptV (b.A.getD i a30).2.2 (spentS L i)) j = inA b L n i 0 j := by
  unfold updA outA inA
  by_cases h : j = i
  · subst h
    rw [if_pos rfl, if_neg (Nat.lt_irrefl _), if_pos rfl]
    simp [dTo]
  · rw [if_neg h, if_neg h]
theorem inP_start (b : Bks) (L : List P7) (i j l : Nat) : outP b L i j l = inP b L i 0 j l := by
  unfold outP inP
  by_cases h : j < i
  · rw [if_pos h, if_pos (.inl h)]
  · have h2 : ¬ (j < i ∨ (j = i ∧ l < 0)) := by omega
    rw [if_neg h, if_neg h2]
theorem in_step (b : Bks) (L : List P7) (n i k j : Nat) : updA (inA b L n i k) i ((inA b L n i k i).1 - netS L i k, (inA b L n i k i).2) j = inA b L n i (k + 1) j := by
  rw [inA_at]
  unfold updA inA
  by_cases h : j = i
  · subst h
    rw [if_pos rfl, if_neg (Nat.lt_irrefl _), if_pos rfl]
    simp only [dTo]
    exact Prod.ext (by show _ - _ - _ = _ - (_ + _); omega) rfl
  · rw [if_neg h, if_neg h, if_neg h]
theorem inP_step (b : Bks) (L : List P7) (i k j l : Nat) : updP (inP b L i k) i k (at2 b.P i k + netS L i k) j l = inP b L i (k + 1) j l := by
  unfold updP inP
  by_cases h : j = i ∧ l = k
  · obtain ⟨rfl, rfl⟩ := h
    have h2 : j < j ∨ (j = j ∧ l < l + 1) := .inr ⟨rfl, by omega⟩
    have h1 : j = j ∧ l = l := ⟨rfl, rfl⟩
    rw [if_pos h1, if_pos h2]
  · rw [if_neg h]
    by_cases h3 : j < i ∨ (j = i ∧ l < k)
    · have h4 : j < i ∨ (j = i ∧ l < k + 1) := by omega
      rw [if_pos h3, if_pos h4]
    · have h4 : ¬ (j < i ∨ (j = i ∧ l < k + 1)) := by omega
      rw [if_neg h3, if_neg h4]
theorem in_end (b : Bks) (L : List P7) (n i j : Nat) : inA b L n i n j = outA b L n (i + 1) j := by
  unfold inA outA
  by_cases h : j < i
  · rw [if_pos h, if_pos (by omega)]
  · rw [if_neg h]
    by_cases h2 : j = i
    · subst h2
      rw [if_pos rfl, if_pos (by omega)]
      rfl
    · rw [if_neg h2, if_neg (by omega)]
theorem inP_end (b : Bks) (L : List P7) (n i j l : Nat) (hl : l < n) : inP b L i n j l = outP b L (i + 1) j l := by
  unfold inP outP
  by_cases h : j < i + 1
  · have h1 : j < i ∨ (j = i ∧ l < n) := by omega
    rw [if_pos h, if_pos h1]
  · have h1 : ¬ (j < i ∨ (j = i ∧ l < n)) := by omega
    rw [if_neg h, if_neg h1]
theorem out_end (b : Bks) (L : List P7) (n j : Nat) (hj : j < n) : outA b L n n j = postA b L n j := by unfold outA; rw [if_pos hj]
theorem outP_end (b : Bks) (L : List P7) (n j l : Nat) (hj : j < n) : outP b L n j l = at2 b.P j l + netS L j l := by unfold outP; rw [if_pos hj]


/-- What the document's Post leaves. -/
def RefPostEnd (w : World) (b : Bks) (L : List P7) (e : Ending) (w' : World) : Prop := ∃ y : BA, e = .returned (.tuple #[y.val, .int .i64 (postE b L)]) ∧ Bk w' y (postR b L) ∧ Below w.heap.size w w'


end Go.Proofs.Ytcdahjkngejkeaa
