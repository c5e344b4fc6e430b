/-
  A literal with a slice of the call's own put behind it, in a region that draws; slices of assets that a call makes; what parts are worth.
-/
import Derived.Test.YtbnhpehobadebaaPoolKnown
import Derived.Test.YtbnhpehobadebaaRefValue
import Derived.Test.YtbnhpehobadebaaFacts3
namespace Go.Proofs.Ytbnhpehobadebaa
open Go.RowKit
set_option linter.unusedVariables false
set_option linter.unusedSimpArgs false

/-- A slice of the call's own. -/
def Fact.own (B : Nat) (t : TypeId) (k : IntKind) (n : Nat) (zs : List Int) : Fact := ⟨fun w v => w.ownsRow B t 1 v n (zs.map (Value.int k)), fun _ _ _ hb h => own_below h hb⟩
/-- One with no room. -/
def Fact.lit (B : Nat) (t : TypeId) (k : IntKind) (n : Nat) (zs : List Int) : Fact :=
  ⟨fun w v => ∃ b, v = .slice (some ⟨b, 0, none⟩) n n ∧ w.ownsRow B t 1 v n (zs.map (Value.int k)), fun _ _ _ hb ⟨b, h1, h2⟩ => ⟨b, h1, own_below h2 hb⟩⟩

section
variable {P : Program} {L : List Fact} {T : List Nat} {Q : Exit → Act → World → Prop} {a0 : Act} {w0 : World} {i : Nat} {o : Oper}

theorem owes_append_lit (t e : TypeId) (B x y jx jy n m : Nat) (k : IntKind) (inf : TypeInfo) (z : Value) (bytes : Nat) (xs ys : List Int) (pv : Value) (ho : o.op = .call { callee := .builtin .append, args := #[.tmp x, .tmp y], argTypes := #[t, t] })
    (hx : T.getD jx 0 = x) (hdx : (o.after.toList.any fun e => e.on == jx && Region.binds .any e) = true) (hfx : L.getD jx Fact.any = Fact.lit B e k n xs)
    (hy : T.getD jy 0 = y) (hdy : (o.after.toList.any fun e => e.on == jy && Region.binds .any e) = true) (hfy : L.getD jy Fact.any = Fact.is pv)
    (hL : L.getD i Fact.any = Fact.own B e k (n + m) (xs ++ ys)) (hown : w0.ownsRow B e 1 pv m (ys.map (Value.int k))) (hB : B ≤ w0.heap.size)
    (ht : P.underlying t = some (.slice e)) (hi : P.info? e = some inf) (hz : inf.zero = some z) (hsize : inf.size = 1) (hby : inf.bytes = bytes) (hzs : z.cells.size = 1)
    (h63 : n + m ≤ maxLen) (hbytes : (n + m) * bytes ≤ 140737488355328) (hw : ∀ a w, Leans L T a0 w0 o a w → Wants T o a) : OwesT P Q L T a0 w0 i o := by
  refine owes_make fun a w hl => ⟨hw a w hl, ?_⟩
  have vx := hl.dep jx hdx
  rw [hfx, hx] at vx
  obtain ⟨b, vx, ox⟩ := vx
  have vy := hl.dep jy hdy
  rw [hfy, hy] at vy
  have oy := own_below hown hl.below
  have ex : a.eval (.tmp x) = .slice (some ⟨b, 0, none⟩) n n := vx
  have ey : a.eval (.tmp y) = pv := vy
  rw [vx] at ox
  rw [hL]
  rcases hown.2 with ⟨rfl, rfl⟩ | ⟨g, cap, cur, rfl, hbg, _⟩
  · have hrun := run_append_owned_none (P := P) (w := w) B t o.type e inf 1 ht hi _ n _ ox
    have hys : ys = [] := List.length_eq_zero_iff.mp (by have := hown.1; simpa using this)
    subst hys
    refine ⟨.slice (some ⟨b, 0, none⟩) n n, w, ?_, Below.refl _ _, ?_⟩
    · simp [execOp, ho, resolve, invoke, builtin, ex, ey, hrun, Result.andThen]
    · show w.ownsRow B e 1 _ (n + 0) ((xs ++ []).map (Value.int k))
      simpa using ox
  · have ly : ys.length = m := by have := hown.1; simpa using this
    by_cases h0 : m = 0
    · subst h0
      obtain rfl : ys = [] := List.length_eq_zero_iff.mp ly
      have hrun := run_append_room_cells (P := P) w t o.type e inf ht hi b 0 n n ⟨g, 0, none⟩ 0 cap [] (by simp) (fun j u hj => by simp at hj) (fun u hu => by simp at hu) (by omega) (fun j hj => by simp at hj) (fun j hj => by simp at hj)
      refine ⟨.slice (some ⟨b, 0, none⟩) n n, w, ?_, Below.refl _ _, ?_⟩
      · simp [execOp, ho, resolve, invoke, builtin, ex, ey, hrun, Result.andThen]
        rfl
      · show w.ownsRow B e 1 _ (n + 0) ((xs ++ []).map (Value.int k))
        simpa using ox
    · obtain ⟨v', w', hrun, r1, r2⟩ := run_append_arg_grows (P := P) w t o.type e inf z 1 bytes ht hi hz hsize hby hzs (by decide) ⟨b, 0, none⟩ n n (xs.map (Value.int k)) ox.1 (ox.cells rfl) ⟨g, 0, none⟩ m cap (ys.map (Value.int k)) oy.1 (oy.cells rfl) (by omega) h63 hbytes
      refine ⟨v', w', ?_, ?_, ?_⟩
      · simp [execOp, ho, resolve, invoke, builtin, ex, ey, hrun, Result.andThen]
      · exact (Below.refl _ _).grown r2 (Nat.le_refl _) (fun k hk => by simp at hk)
      · rw [← List.map_append] at r1
        exact own_base r1 (Nat.le_trans hB hl.below.size)
end

/-- Rows of different types are apart. -/
theorem own_apart {w : World} {B B' : Nat} {t t' : TypeId} {s s' : Nat} {v v' : Value} {n n' : Nat} {xs xs' : List Value} (h : w.ownsRow B t s v n xs) (h' : w.ownsRow B' t' s' v' n' xs') (ht : t ≠ t') : v.ownBlock = none ∨ v.ownBlock ≠ v'.ownBlock := by
  rcases h.2 with ⟨rfl, _⟩ | ⟨g, cap, cur, rfl, _, hg, _⟩
  · exact .inl rfl
  · right
    rcases h'.2 with ⟨rfl, _⟩ | ⟨g', cap', cur', rfl, _, hg', _⟩
    · simp [Value.ownBlock]
    · simp only [Value.ownBlock]
      intro e
      simp at e
      subst e
      rw [hg] at hg'
      simp at hg'
      exact ht hg'.2

/-- The cells of k assets with this cut. -/
def astL (cut : Int) : Nat → List Value
  | 0 => []
  | k + 1 => astL cut k ++ [.int .i64 0, .int .i64 cut]
theorem astL_length (cut : Int) (k : Nat) : (astL cut k).length = k * 2 := by
  induction k with
  | zero => rfl
  | succ k ih => simp only [astL, List.length_append, ih, List.length_cons, List.length_nil]; omega
theorem astL_at (cut : Int) (k r : Nat) (h : r < k) : (astL cut k)[r * 2]? = some (.int .i64 0) ∧ (astL cut k)[r * 2 + 1]? = some (.int .i64 cut) := by
  induction k with
  | zero => omega
  | succ k ih =>
    simp only [astL]
    by_cases e : r = k
    · subst e
      rw [List.getElem?_append_right (by rw [astL_length]; omega), List.getElem?_append_right (by rw [astL_length]; omega), astL_length]
      refine ⟨?_, ?_⟩
      · rw [Nat.sub_self]; rfl
      · rw [Nat.add_sub_cancel_left]; rfl
    · rw [List.getElem?_append_left (by rw [astL_length]; omega), List.getElem?_append_left (by rw [astL_length]; omega)]
      exact ih (by omega)

theorem asts_own {w : World} {B k : Nat} {v : Value} {cut : Int} (h : w.ownsRow B 31 2 v k (astL cut k)) : ∃ a cap, v = .slice a k cap ∧ Asts w a k (fun _ => 0) (fun _ => cut) := by
  rcases h.2 with ⟨rfl, rfl⟩ | ⟨g, cap, cur, rfl, _, hg, _⟩
  · exact ⟨none, 0, rfl, .inl rfl⟩
  · refine ⟨_, cap, rfl, .inr ⟨g, 0, rfl, lt_of_block hg, ?_⟩⟩
    intro r hr
    obtain ⟨h1, h2⟩ := astL_at cut k r hr
    rw [Nat.zero_add]
    exact ⟨by rw [h.cellAt (r * 2) (by omega), h1], by rw [h.cellAt (r * 2 + 1) (by omega), h2]⟩

theorem worth_small {p m c : Int} (p0 : 0 ≤ p) (p1 : p ≤ 1048576) (m0 : 0 ≤ m) (m1 : m ≤ 68719476736) (c0 : 0 ≤ c) (c1 : c ≤ 10000) : worthB p m c = true ∧ 0 ≤ worthV p m c ∧ worthV p m c ≤ 72057594037927936 := by
  have a0 : 0 ≤ p * m := Int.mul_nonneg p0 m0
  have a1 : p * m ≤ 1048576 * 68719476736 := Int.mul_le_mul p1 m1 m0 (by decide)
  have b0 : 0 ≤ p * m * (10000 - c) := Int.mul_nonneg a0 (by omega)
  have b1 : p * m * (10000 - c) ≤ 1048576 * 68719476736 * 10000 := Int.mul_le_mul a1 (by omega) (by omega) (by decide)
  rw [worthB_yes p0 m0 c0 c1, worthV_yes p0 m0 c0 c1]
  generalize p * m * (10000 - c) = X at *
  rw [heldB_yes (by omega) (by omega), heldV_yes (by omega) (by omega)]
  exact ⟨rfl, by omega, by omega⟩

theorem parts_small {p h : Nat → Int} {c : Int} (c0 : 0 ≤ c) (c1 : c ≤ 10000) : ∀ k, k ≤ 6 → (∀ j, j < k → 0 ≤ p j ∧ p j ≤ 1048576 ∧ 0 ≤ h j ∧ h j ≤ 68719476736) →
    vOk p h (fun _ => c) k = true ∧ 0 ≤ vV p h (fun _ => c) k ∧ vV p h (fun _ => c) k ≤ k * 72057594037927936
  | 0, _, _ => by simp [vOk, vV]
  | k + 1, hk, hb => by
    obtain ⟨i1, i2, i3⟩ := parts_small (p := p) (h := h) c0 c1 k (by omega) (fun j hj => hb j (by omega))
    obtain ⟨b1, b2, b3, b4⟩ := hb k (by omega)
    obtain ⟨w1, w2, w3⟩ := worth_small b1 b2 b3 b4 c0 c1
    have e : heldB (vV p h (fun _ => c) k + worthV (p k) (h k) c) = true := heldB_yes (by omega) (by omega)
    refine ⟨?_, ?_, ?_⟩
    · simp [vOk, i1, w1, e]
    · simp only [vV]; omega
    · simp only [vV]; omega

theorem vV_cons (x y c : Int) (P H : List Int) : ∀ k, vV (fun i => (x :: P).getD i 0) (fun i => (y :: H).getD i 0) (fun _ => c) (k + 1) = worthV x y c + vV (fun i => P.getD i 0) (fun i => H.getD i 0) (fun _ => c) k
  | 0 => by simp [vV]
  | k + 1 => by
    rw [vV, vV_cons x y c P H k]
    simp only [vV, List.getD_cons_succ]
    omega

theorem parts_value {p h : Nat → Int} {c : Int} {k : Nat} (hb : vOk p h (fun _ => c) k = true) : valueV k k k p h (fun _ => c) = vV p h (fun _ => c) k ∧ valueB k k k p h (fun _ => c) = true := by
  obtain ⟨e1, e2⟩ := value_all hb
  exact ⟨e1.symm, e2.symm⟩

theorem infoAst : (Try.prog.info? 31).map (fun i => (i.zero, i.size, i.bytes)) = some (some (.agg #[.int .i64 0, .int .i64 0]), 2, 16) := by kernel_rfl

end Go.Proofs.Ytbnhpehobadebaa
