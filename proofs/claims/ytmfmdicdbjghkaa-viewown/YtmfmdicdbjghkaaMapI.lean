/-
  A map[int]int that the call made, as a function: what stands at each key, 0 where nothing does.
-/
import Derived.Test.YtmfmdicdbjghkaaSl
import Derived.Maps.OwnOps
import Derived.Maps.Views
namespace Go.Proofs.Ytmfmdicdbjghkaa
open Go.RowKit Go.Maps
set_option linter.unusedVariables false
set_option linter.unusedSimpArgs false

theorem keyedInt : Keyed Try.prog 3 := int_keyed Try.underlying3
theorem zeroInt (w : World) : (zeroValue 3).run Try.prog w = .ok (.int .i64 0) w := by kernel_rfl
theorem wf_lit {n : Int} (h : IntKind.i64.wrap n = n) : (Lit.int .i64 n).wf = true := by
  have := wf_i64 h
  exact WalkArith.wf_i64 (by omega)

/-- Block b is such a map, of at most n keys. -/
def MapI (w : World) (b n : Nat) (f : Int → Int) : Prop :=
  ∃ D : DataW Unit, w.ownsMap Try.prog 3 (plainElem Try.prog 3) b n D ∧ IsMap D ∧ ∀ x, D.atKey (.int .i64 x) (.lit (.int .i64 0)) = .lit (.int .i64 (f x))

theorem MapI.new (w : World) : MapI (w.alloc (.map #[] 0)) w.heap.size 0 (fun _ => 0) :=
  ⟨.map [], World.ownsMap_made _ _ _ _, isMap_empty, fun _ => rfl⟩
theorem MapI.lt {w : World} {b n : Nat} {f : Int → Int} (h : MapI w b n f) : b < w.heap.size := by
  obtain ⟨D, h, _⟩ := h
  exact h.lt
theorem MapI.grown {w w' : World} {b n : Nat} {f : Int → Int} {r : Option Nat} (h : MapI w b n f) (hg : w.grownBy w' r) (hne : some b ≠ r) : MapI w' b n f := by
  obtain ⟨D, h, k⟩ := h
  exact ⟨D, h.kept hg hne, k⟩
theorem MapI.below {w w' : World} {b n : Nat} {f : Int → Int} (h : MapI w b n f) (hb : Below w.heap.size w w') : MapI w' b n f :=
  h.grown (r := none) ⟨hb.os, hb.tape, hb.output, hb.size, fun k hk _ => hb.block k hk⟩ (by simp)
theorem MapI.congr {w : World} {b n : Nat} {f g : Int → Int} (h : MapI w b n f) (e : ∀ x, f x = g x) : MapI w b n g := by
  obtain ⟨D, h, h1, h2⟩ := h
  exact ⟨D, h, h1, fun x => by rw [h2, e]⟩
theorem MapI.mono {w : World} {b n m : Nat} {f : Int → Int} (h : MapI w b n f) (e : n ≤ m) : MapI w b m f := by
  obtain ⟨D, h, k⟩ := h
  exact ⟨D, h.mono e, k⟩
/-- It is no block of cells. -/
theorem MapI.ne {w : World} {b n g o : Nat} {f : Int → Int} {v : Value} (h : MapI w b n f) (hc : w.cell? ⟨g, o, none⟩ = some v) : g ≠ b := by
  rintro rfl
  obtain ⟨D, ⟨es, clock, hm, _⟩, _⟩ := h
  unfold World.cell? at hc
  simp [hm] at hc
/-- One more at a key. -/
def upd (f : Int → Int) (x y : Int) : Int → Int := fun z => if z = x then y else f z

theorem wpList_look {w : World} {ops : Array Oper} {rest : List Oper} {o : Oper} {a : Act} {Q : Exit → Act → World → Prop} (hgd : o.guard = none) (m x : Operand) (hop : o.op = Op.lookup 43 m x false)
    (b n : Nat) (f : Int → Int) (hm : a.eval m = .map (some b)) (h : MapI w b n f) (k : Int) (hx : a.eval x = .int .i64 k) (hk : IntKind.i64.wrap k = k)
    (hK : wpList Try.prog ops Q rest (a.put o.dst (.int .i64 (f k))) w) : wpList Try.prog ops Q (o :: rest) a w := by
  obtain ⟨D, hown, _, hat⟩ := h
  refine wpList_lookup_own_int w hgd m x _ hop 3 3 .i64 keyedInt Try.underlying43 Try.underlying3 (zeroInt w) b n D hm hown _ _ hx (keyOf_int_mk Try.underlying3 (wf_lit hk)) fun c hc _ => ?_
  rw [hat k] at hc
  simp at hc
  rw [← hc]
  exact hK

/-- .. as an equation, for the walk (a guarded look-up). -/
theorem MapI.look {w : World} {b n : Nat} {f : Int → Int} (h : MapI w b n f) {k y : Int} (hk : IntKind.i64.wrap k = k) (hy : f k = y) : (Instr.lookup 43 (.map (some b)) (.int .i64 k) false).run Try.prog w = .ok (.int .i64 y) w := by
  obtain ⟨D, hown, _, hat⟩ := h
  obtain ⟨c, hrun, hc, _⟩ := hown.lookup_int keyedInt Try.underlying43 Try.underlying3 (zeroInt w) (keyOf_int_mk Try.underlying3 (wf_lit hk))
  rw [hat k] at hc
  simp at hc
  rw [hrun, ← hc, hy]

theorem wpList_mapPut {w : World} {ops : Array Oper} {rest : List Oper} {o : Oper} {a : Act} {Q : Exit → Act → World → Prop} (hgd : o.guard = none) (m x v : Operand) (hop : o.op = Op.mapUpdate 43 m x v)
    (b n : Nat) (f : Int → Int) (hm : a.eval m = .map (some b)) (h : MapI w b n f) (hn : n ≤ 1000000) (k y : Int) (hx : a.eval x = .int .i64 k) (hk : IntKind.i64.wrap k = k) (hv : a.eval v = .int .i64 y) (hy : IntKind.i64.wrap y = y)
    (hK : ∀ w', MapI w' b (n + 1) (upd f k y) → w.grownBy w' (some b) → wpList Try.prog ops Q rest (a.put o.dst undef) w') : wpList Try.prog ops Q (o :: rest) a w := by
  obtain ⟨D, hown, hmap, hat⟩ := h
  refine wpList_mapUpdate_own w hgd m x v _ hop 3 3 keyedInt Try.underlying43 _ b n D hm hown (by unfold maxLen; omega) _ _ _ hx hv (keyOf_int_mk Try.underlying3 (wf_lit hk)) _ [] (plainElem_int Try.underlying3 (wf_lit hy)) fun w' h1 h2 => ?_
  refine hK w' ⟨_, h1, hmap.put _ _, fun z => ?_⟩ h2
  unfold upd
  by_cases hz : z = k
  · subst hz
    rw [if_pos rfl]
    exact atKey_put_same hmap (k := .int .i64 z) (show WideAt.IsKeyLit (.int .i64 z) from trivial) _ _
  · rw [if_neg hz]
    rw [atKey_put_other (by simpa using hz)]
    exact hat z

end Go.Proofs.Ytmfmdicdbjghkaa
