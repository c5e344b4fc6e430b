/-
  Texts of this seat in one: Sl, New, Pay7, PaySame, RowSpec, PayReady, PayRows, Facts, Facts2, Facts3, FactK, FactsIf, FactsEnd, FactsTail, Plain, PlainSl, PayArg, PaysGood, Args.
-/
import Derived.Test.YtlackjldopeigaaRows
import Derived.WalkKit
import Derived.WalkSpells
import Derived.Laws.Externs
import Derived.Laws.BytesArg
import Derived.Laws.AppendOwnNone
import Derived.Laws.OwnMore
import Derived.Deep.QuietTactic
import Derived.BigQuiet
import Derived.Deep.Light
import Derived.RegionTactic
import Derived.BigRegion
import Derived.Deep.RegionWith
import Derived.WalkSmall
import Derived.Laws.Tables
import Derived.Deep.RegionLaw
import Derived.Laws.AppendOwn
import Derived.Orders
import Derived.ArgAppend
import Derived.ProofKit
import Derived.OpenShut
import Derived.ChangeOld
import Derived.Below
import Derived.Deep.Slices

/-
  Slices of integers of whatever kind: what a walk is told of them, how they are cut, read as texts, and carried on.
-/
namespace Go.Proofs.Ytlackjldopeigaa
open Go.RowKit
set_option linter.unusedVariables false

theorem infoI64 : (Try.prog.info? 2).map (fun i => (i.zero, i.size, i.bytes)) = some (some (.int .i64 0), 1, 8) := by kernel_rfl
theorem infoU8 : (Try.prog.info? 5).map (fun i => (i.zero, i.size, i.bytes)) = some (some (.int .u8 0), 1, 1) := by kernel_rfl

/-- What the walk is told of a slice of integers: its elements. -/
def Sl (k : IntKind) (w : World) (a : Option Addr) (len : Nat) (zs : List Int) : Prop :=
  len = zs.length ∧ (∀ n ∈ zs, k.wrap n = n) ∧
    (zs = [] ∨ ∃ b off, a = some ⟨b, off, none⟩ ∧ ∀ i, i < zs.length → w.cell? ⟨b, off + i, none⟩ = some (.int k (zs.getD i 0)))

theorem Sl.len {k : IntKind} {w : World} {a : Option Addr} {len : Nat} {zs : List Int} (h : Sl k w a len zs) : len = zs.length := h.1
theorem Sl.wf {k : IntKind} {w : World} {a : Option Addr} {len : Nat} {zs : List Int} (h : Sl k w a len zs) : ∀ n ∈ zs, k.wrap n = n := h.2.1

theorem Sl.nil (k : IntKind) (w : World) (a : Option Addr) : Sl k w a 0 [] := ⟨rfl, fun n hn => by simp at hn, .inl rfl⟩

/-- What was there before stays as it is. -/
theorem Sl.below {k : IntKind} {w w' : World} {a : Option Addr} {len : Nat} {zs : List Int} (h : Sl k w a len zs) (hb : Below w.heap.size w w') : Sl k w' a len zs := by
  refine ⟨h.1, h.2.1, ?_⟩
  rcases h.2.2 with h0 | ⟨b, off, ha, hc⟩
  · exact .inl h0
  · refine .inr ⟨b, off, ha, fun i hi => ?_⟩
    rw [hb.cell (p := ⟨b, off + i, none⟩) (block_lt_of_cell (hc i hi)), hc i hi]

theorem Sl.drew {k : IntKind} {w : World} {a : Option Addr} {len : Nat} {zs : List Int} (h : Sl k w a len zs) (n : Nat) : Sl k (w.drewN n) a len zs := h

theorem Sl.alloc {k : IntKind} {w : World} {a : Option Addr} {len : Nat} {zs : List Int} (h : Sl k w a len zs) (o : Obj) : Sl k (w.alloc o) a len zs :=
  h.below ((Below.refl _ _).alloc (Nat.le_refl _) _)

/-- A slice that the call owns. -/
theorem Sl.own {k : IntKind} {w : World} {base : Nat} {T : TypeId} {v : Value} {ys : List Int} {n : Nat} (h : w.ownsRow base T 1 v n (ys.map (Value.int k)))
    (hwf : ∀ n ∈ ys, k.wrap n = n) : ∃ a cap, v = .slice a ys.length cap ∧ Sl k w a ys.length ys ∧ (a = none → cap = 0) := by
  have hn : n = ys.length := by have := h.1; simp at this; omega
  subst hn
  rcases h.2 with ⟨rfl, h0⟩ | ⟨g, cap, cur, rfl, _, _, _, _, _, _⟩
  · have : ys = [] := List.length_eq_zero_iff.mp h0
    subst this
    exact ⟨none, 0, rfl, ⟨rfl, hwf, .inl rfl⟩, fun _ => rfl⟩
  · refine ⟨some ⟨g, 0, none⟩, cap, rfl, ⟨rfl, hwf, .inr ⟨g, 0, rfl, ?_⟩⟩, fun h => by simp at h⟩
    intro i hi
    rw [Nat.zero_add, h.cellAt i (by omega)]
    simp [hi]

/-- A slice that has just been laid. -/
theorem Sl.new (k : IntKind) (w : World) (t : TypeId) (fr : Nat × Nat) (zs : List Int) (hwf : ∀ n ∈ zs, k.wrap n = n) :
    Sl k (w.alloc (.cells (zs.map (Value.int k)).toArray t fr)) (some ⟨w.heap.size, 0, none⟩) zs.length zs := by
  refine ⟨rfl, hwf, .inr ⟨w.heap.size, 0, rfl, ?_⟩⟩
  intro i hi
  have h := cell_of_row (w.alloc (.cells (zs.map (Value.int k)).toArray t fr)) w.heap.size i _ _ _ (heap_alloc_new w _)
  rw [Nat.zero_add, h]
  simp [hi]

theorem Addr.add_flat (b off i : Nat) : (⟨b, off, none⟩ : Addr).add i = ⟨b, off + i, none⟩ := by cases i <;> simp [Addr.add]

/-- The cut a[i:j]. -/
theorem Sl.cut {k : IntKind} {w : World} {a : Option Addr} {len cap : Nat} {zs : List Int} (h : Sl k w a len zs) (hc : len ≤ cap) (i j m : Nat) (hij : i ≤ j) (hj : j ≤ len) (hm : j ≤ m) :
    Sl k w (if m = i then a else a.map (·.add (i * 1))) (j - i) ((zs.take j).drop i) := by
  have hl := h.1
  refine ⟨by simp; omega, fun n hn => h.2.1 n (List.mem_of_mem_take (List.mem_of_mem_drop hn)), ?_⟩
  by_cases hlt : i < j
  · rcases h.2.2 with h0 | ⟨b, off, ha, hcell⟩
    · subst h0; simp at hl; omega
    · refine .inr ⟨b, off + i, ?_, ?_⟩
      · rw [if_neg (by omega), ha]; simp [Addr.add_flat]
      · intro t ht
        simp at ht
        rw [Nat.add_assoc, hcell (i + t) (by omega)]
        simp [List.getD_eq_getElem?_getD]
        rw [List.getElem?_take_of_lt (by omega)]
  · exact .inl (List.drop_eq_nil_of_le (by simp; omega))

/-- Where the cut a[i:..] begins, as the walk writes it. -/
abbrev cutA (a : Option Addr) (m i : Nat) : Option Addr := if m = i then a else Option.map (fun x => { block := x.block, off := x.off + i }) a

theorem Sl.cutA {k : IntKind} {w : World} {a : Option Addr} {len cap : Nat} {zs : List Int} (h : Sl k w a len zs) (hc : len ≤ cap) (i j m : Nat) (hij : i ≤ j) (hj : j ≤ len) (hm : j ≤ m) :
    Sl k w (cutA a m i) (j - i) ((zs.take j).drop i) := by
  have hl := h.1
  refine ⟨by simp; omega, fun n hn => h.2.1 n (List.mem_of_mem_take (List.mem_of_mem_drop hn)), ?_⟩
  by_cases hlt : i < j
  · rcases h.2.2 with h0 | ⟨b, off, ha, hcell⟩
    · subst h0; simp at hl; omega
    · refine .inr ⟨b, off + i, ?_, ?_⟩
      · rw [Go.Proofs.Ytlackjldopeigaa.cutA, if_neg (by omega), ha]; simp
      · intro t ht
        simp at ht
        rw [Nat.add_assoc, hcell (i + t) (by omega)]
        simp [List.getD_eq_getElem?_getD]
        rw [List.getElem?_take_of_lt (by omega)]
  · exact .inl (List.drop_eq_nil_of_le (by simp; omega))

theorem Sl.cutB {k : IntKind} {w : World} {a : Option Addr} {len cap : Nat} {zs : List Int} (h : Sl k w a len zs) (hc : len ≤ cap) (i j L : Nat) (hij : i < j) (hj : j ≤ len) (hL : L = j - i) :
    Sl k w (Option.map (fun x => x.add i) a) L ((zs.take j).drop i) := by
  have := h.cut hc i j j (by omega) hj (Nat.le_refl _)
  rw [if_neg (by omega), Nat.mul_one] at this
  rw [hL]
  exact this

theorem Sl.cutI {k : IntKind} {w : World} {a : Option Addr} {len cap : Nat} {zs : List Int} (h : Sl k w a len zs) (hc : len ≤ cap) (i : Nat) (hi : i ≤ len) :
    Sl k w (if cap = i then a else Option.map (fun x => x.add i) a) (len - i) (zs.drop i) := by
  have := h.cut hc i len cap hi (Nat.le_refl _) hc
  rw [Nat.mul_one] at this
  rwa [List.take_of_length_le (by rw [← h.1]; exact Nat.le_refl _)] at this

theorem Sl.take {k : IntKind} {w : World} {a : Option Addr} {len : Nat} {zs : List Int} (h : Sl k w a len zs) (j : Nat) (hj : j ≤ len) : Sl k w a j (zs.take j) := by
  have hl := h.1
  refine ⟨by simp; omega, fun n hn => h.2.1 n (List.mem_of_mem_take hn), ?_⟩
  rcases h.2.2 with h0 | ⟨b, off, ha, hcell⟩
  · subst h0; exact .inl (by simp)
  · refine .inr ⟨b, off, ha, ?_⟩
    intro t ht
    simp at ht
    rw [hcell t (by omega)]
    simp [List.getD_eq_getElem?_getD]
    rw [List.getElem?_take_of_lt (by omega)]

theorem Sl.from {k : IntKind} {w : World} {a : Option Addr} {len cap : Nat} {zs : List Int} (h : Sl k w a len zs) (hc : len ≤ cap) (i : Nat) (hi : i ≤ len) :
    Sl k w (Go.Proofs.Ytlackjldopeigaa.cutA a cap i) (len - i) (zs.drop i) := by
  have := h.cutA hc i len cap hi (Nat.le_refl _) hc
  rwa [List.take_of_length_le (by rw [← h.1]; exact Nat.le_refl _)] at this

/-- The text of a slice of bytes. -/
theorem Sl.text {P : Program} {w : World} {a : Option Addr} {len cap : Nat} {zs : List Int} (h : Sl .u8 w a len zs) (src dst e : TypeId) (hs : P.underlying src = some (.slice e)) (he : P.underlying e = some (.int .u8))
    (hd : P.underlying dst = some .string) : (convert src dst (.slice a len cap)).run P w = .ok (.string (strOfNums zs)) w := by
  have hl := h.1
  subst hl
  rcases h.2.2 with h0 | ⟨b, off, rfl, hc⟩
  · subst h0
    cases a with
    | none => rw [run_convert_bytes_nil w src e hs he _ _ dst hd]; rfl
    | some x =>
      have := run_convert_bytes_back (P := P) w src dst e x cap [] hs he hd (fun j hj => by simp at hj)
      exact this
  · exact run_convert_bytes_arg w src e hs he b off _ cap zs rfl hc dst hd

theorem own_below {w w' : World} {B : Nat} {T : TypeId} {size : Nat} {v : Value} {n : Nat} {xs : List Value} (h : w.ownsRow B T size v n xs) (k : Below w.heap.size w w') : w'.ownsRow B T size v n xs := by
  refine ⟨h.1, ?_⟩
  rcases h.2 with hn | ⟨g, cap, cur, hv, hb, hg, rest⟩
  · exact .inl hn
  · exact .inr ⟨g, cap, cur, hv, hb, (k.block g (lt_of_block hg)).trans hg, rest⟩
theorem own_base {w : World} {B B' : Nat} {T : TypeId} {size : Nat} {v : Value} {n : Nat} {xs : List Value} (h : w.ownsRow B T size v n xs) (k : B' ≤ B) : w.ownsRow B' T size v n xs := by
  refine ⟨h.1, ?_⟩
  rcases h.2 with hn | ⟨g, cap, cur, hv, hb, hg, rest⟩
  · exact .inl hn
  · exact .inr ⟨g, cap, cur, hv, by omega, hg, rest⟩
theorem own_some {w : World} {B : Nat} {T : TypeId} {size : Nat} {v : Value} {n : Nat} {xs : List Value} (h : w.ownsRow B T size v n xs) (hv : v ≠ .slice none 0 0) : ∃ g cap, v = .slice (some ⟨g, 0, none⟩) n cap := by
  rcases h.2 with hn | ⟨g, cap, cur, hv', _⟩
  · exact absurd hn.1 hv
  · exact ⟨g, cap, hv'⟩
theorem own_cap {w : World} {B : Nat} {T : TypeId} {size : Nat} {a : Option Addr} {len cap : Nat} {n : Nat} {xs : List Value} (h : w.ownsRow B T size (.slice a len cap) n xs) : len ≤ cap ∧ cap ≤ 9223372036854775807 := by
  rcases h.2 with ⟨hn, _⟩ | ⟨g, cap', cur, hv, _, _, h1, h2, _⟩
  · simp at hn; omega
  · simp at hv
    unfold maxLen at h2
    omega

/-- append of a slice of integers, whatever it is, onto nil or onto a slice that the call owns. -/
theorem wpList_append_sl {P : Program} {w : World} {ops : Array Oper} {rest : List Oper} {o : Oper} {a : Act} {Q : Exit → Act → World → Prop} (hgd : o.guard = none) (s x : Operand) (t : TypeId)
    (ho : o.op = .call { callee := .builtin .append, args := #[s, x], argTypes := #[t, t] })
    (base : Nat) (e : TypeId) (i : TypeInfo) (z : Value) (bytes : Nat) (ht : P.underlying t = some (.slice e)) (hi : P.info? e = some i) (hz : i.zero = some z)
    (hsize : i.size = 1) (hby : i.bytes = bytes) (hzs : z.cells.size = 1)
    (v : Value) (n : Nat) (xs : List Value) (hs : a.eval s = v) (hown : w.ownsRow base e 1 v n xs)
    (k : IntKind) (ad : Option Addr) (m c : Nat) (ys : List Int) (hx : a.eval x = .slice ad m c) (hS : Sl k w ad m ys) (hn : ad = none → c = 0)
    (h63 : n + m ≤ maxLen) (hbytes : (n + m) * bytes ≤ 140737488355328) (hbase : base ≤ w.heap.size)
    (h : ∀ v' w', w'.ownsRow base e 1 v' (n + m) (xs ++ ys.map (Value.int k)) → w.grownBy w' v.ownBlock → (v ≠ .slice none 0 0 → v' ≠ .slice none 0 0) → wpList P ops Q rest (a.put o.dst v') w') : wpList P ops Q (o :: rest) a w := by
  have hl := hS.1
  cases ad with
  | none =>
    have hys : ys = [] := by
      rcases hS.2.2 with h0 | ⟨b, off, ha, _⟩
      · exact h0
      · simp at ha
    subst hys
    simp at hl
    subst hl
    have hc := hn rfl
    subst hc
    refine wpList_append_own_none hgd s x t ho base e i 1 ht hi v n xs hs hown hx (h v w ?_ (World.grownBy.refl _ _) (fun h => h))
    simpa using hown
  | some ad =>
    refine wpList_append_own w hgd s x t ho base e i z 1 bytes ht hi hz hsize hby hzs (by decide) v n xs hs hown ad m c (ys.map (Value.int k)) hx (by simp; omega) ?_ ?_ h63 hbytes hbase ?_
    · intro j u hj
      have hjl : j < ys.length := by
        have := (List.getElem?_eq_some_iff.1 hj).1
        simpa using this
      rcases hS.2.2 with h0 | ⟨b, off, ha, hc⟩
      · subst h0; simp at hjl
      · simp at ha
        subst ha
        rw [Addr.add_flat, hc j hjl]
        simp [hjl] at hj
        rw [← hj]
        simp [List.getD_eq_getElem?_getD, hjl]
    · intro u hu
      obtain ⟨z, _, rfl⟩ := List.mem_map.1 hu
      rfl
    · intro v' w' h1 h2 h3
      exact h v' w' h1 h2 (fun hv hv' => hv (h3.1 hv').1)

theorem wf_i64 {n : Int} (h : IntKind.i64.wrap n = n) : -9223372036854775808 ≤ n ∧ n ≤ 9223372036854775807 := by rw [IntKind.wrap_i64] at h; omega
theorem wf_u8 {n : Int} (h : IntKind.u8.wrap n = n) : 0 ≤ n ∧ n ≤ 255 := by rw [IntKind.wrap_u8] at h; omega
theorem i64_wf {n : Int} (h0 : -9223372036854775808 ≤ n) (h1 : n ≤ 9223372036854775807) : IntKind.i64.wrap n = n := by rw [IntKind.wrap_i64]; omega
theorem u8_wf {n : Int} (h0 : 0 ≤ n) (h1 : n ≤ 255) : IntKind.u8.wrap n = n := by rw [IntKind.wrap_u8]; omega

theorem rt_int {k : IntKind} {a c : Int} (h : a = c) : Ending.returned (.int k a) = .returned (.int k c) := by rw [h]
theorem rt_bool {b d : Bool} (h : b = d) : Ending.returned (.bool b) = .returned (.bool d) := by rw [h]

theorem getD_mem {l : List Int} {i : Nat} (h : i < l.length) : l.getD i 0 ∈ l := by simp [List.getD_eq_getElem?_getD, h]

theorem take_snoc (l : List Int) (k : Nat) (h : k < l.length) : l.take (k + 1) = l.take k ++ [l.getD k 0] := by
  rw [List.take_succ_eq_append_getElem h]
  simp [h]

/-- Two texts of bytes are one just if the bytes are. -/
theorem strOfNums_inj {xs ys : List Int} (hx : ∀ n ∈ xs, IntKind.u8.wrap n = n) (hy : ∀ n ∈ ys, IntKind.u8.wrap n = n) (h : strOfNums xs = strOfNums ys) : xs = ys := by
  have h1 : (strOfNums xs).data.toList = (strOfNums ys).data.toList := by rw [h]
  rw [strOfNums_data, strOfNums_data] at h1
  clear h
  induction xs generalizing ys with
  | nil => cases ys with
    | nil => rfl
    | cons y ys => simp at h1
  | cons x xs ih => cases ys with
    | nil => simp at h1
    | cons y ys =>
      simp only [List.map_cons, List.cons.injEq] at h1
      have bx := wf_u8 (hx x (by simp))
      have bY := wf_u8 (hy y (by simp))
      have e : x = y := by
        have h2 := congrArg UInt8.toNat h1.1
        simp at h2
        omega
      rw [e, ih (fun n hn => hx n (by simp [hn])) (fun n hn => hy n (by simp [hn])) h1.2]

end Go.Proofs.Ytlackjldopeigaa

/-
  What was just laid: its cells, and that nothing below has turned.
-/
namespace Go.Proofs.Ytlackjldopeigaa
open Go.RowKit
set_option linter.unusedVariables false

theorem cell_new (w : World) (cs : Array Value) (t : TypeId) (fr : Nat × Nat) (i : Nat) : (w.alloc (.cells cs t fr)).cell? ⟨w.heap.size, i, none⟩ = cs[i]? := by
  exact cell_of_row (w.alloc (.cells cs t fr)) w.heap.size i _ _ _ (heap_alloc_new w _)
theorem box_below (w : World) (o : Obj) : Below w.heap.size w (w.alloc o) := (Below.refl _ _).alloc (Nat.le_refl _) _
theorem size_alloc (w : World) (o : Obj) : (w.alloc o).heap.size = w.heap.size + 1 := by simp

theorem Below.setRow {B : Nat} {a w : World} (h : Below B a w) {g : Nat} (hg : B ≤ g) (cs : Array Value) : Below B a (w.setRow g cs) :=
  ⟨h.os, h.tape, h.output, by rw [setRow_size]; exact h.size, fun k hk => by rw [setRow_other _ _ _ _ (by omega)]; exact h.block k hk⟩

/-- Three int64s that lie at g. -/
def At3 (w : World) (g : Nat) (b c r : Int) : Prop := w.cell? ⟨g, 0, none⟩ = some (.int .i64 b) ∧ w.cell? ⟨g, 1, none⟩ = some (.int .i64 c) ∧ w.cell? ⟨g, 2, none⟩ = some (.int .i64 r)

theorem At3.below {w w' : World} {g : Nat} {b c r : Int} (h : At3 w g b c r) (hb : Below w.heap.size w w') : At3 w' g b c r := by
  obtain ⟨h0, h1, h2⟩ := h
  have hg := block_lt_of_cell h0
  exact ⟨by rw [hb.cell (p := ⟨g, 0, none⟩) hg]; exact h0, by rw [hb.cell (p := ⟨g, 1, none⟩) hg]; exact h1, by rw [hb.cell (p := ⟨g, 2, none⟩) hg]; exact h2⟩
theorem At3.new (w : World) (b c r : Int) (t : TypeId) (fr : Nat × Nat) : At3 (w.alloc (.cells #[.int .i64 b, .int .i64 c, .int .i64 r] t fr)) w.heap.size b c r :=
  ⟨by rw [cell_new]; rfl, by rw [cell_new]; rfl, by rw [cell_new]; rfl⟩
theorem At3.lt {w : World} {g : Nat} {b c r : Int} (h : At3 w g b c r) : g < w.heap.size := block_lt_of_cell h.1

theorem drawn_below (w : World) (n : Nat) : Below w.heap.size w (w.drewN n) := ⟨rfl, rfl, rfl, Nat.le_refl _, fun _ _ => rfl⟩
theorem drewN_below {w w' : World} {e : Ending} {v : Value} (h : e = .returned v ∧ ∃ n, w' = w.drewN n) : e = .returned v ∧ Below w.heap.size w w' := by
  obtain ⟨h1, n, rfl⟩ := h
  exact ⟨h1, drawn_below _ _⟩

theorem take_snocA {α : Type} (l : List α) (d : α) (k : Nat) (h : k < l.length) : l.take (k + 1) = l.take k ++ [l.getD k d] := by
  rw [List.take_succ_eq_append_getElem h]
  simp [h]

end Go.Proofs.Ytlackjldopeigaa

/-
  Payments: seven Ints; where one lies.
-/
namespace Go.Proofs.Ytlackjldopeigaa
open Go.RowKit
set_option linter.unusedVariables false
set_option linter.unusedSimpArgs false

/-- A payment: ID, From, To, Amount, Class, Start, Till. -/
abbrev P7 := Int × Int × Int × Int × Int × Int × Int
abbrev P7.id (p : P7) : Int := p.1
abbrev P7.fr (p : P7) : Int := p.2.1
abbrev P7.to (p : P7) : Int := p.2.2.1
abbrev P7.am (p : P7) : Int := p.2.2.2.1
abbrev P7.cl (p : P7) : Int := p.2.2.2.2.1
abbrev P7.st (p : P7) : Int := p.2.2.2.2.2.1
abbrev P7.ti (p : P7) : Int := p.2.2.2.2.2.2
/-- Its value. -/
abbrev P7.val (p : P7) : Value := .agg #[.int .i64 p.id, .int .i64 p.fr, .int .i64 p.to, .int .i64 p.am, .int .i64 p.cl, .int .i64 p.st, .int .i64 p.ti]
def p70 : P7 := (0, 0, 0, 0, 0, 0, 0)

/-- Seven int64s that lie at g, from o on. -/
def At7 (w : World) (g o : Nat) (p : P7) : Prop :=
  w.cell? ⟨g, o, none⟩ = some (.int .i64 p.id) ∧ w.cell? ⟨g, o + 1, none⟩ = some (.int .i64 p.fr) ∧ w.cell? ⟨g, o + 2, none⟩ = some (.int .i64 p.to) ∧ w.cell? ⟨g, o + 3, none⟩ = some (.int .i64 p.am) ∧ w.cell? ⟨g, o + 4, none⟩ = some (.int .i64 p.cl) ∧ w.cell? ⟨g, o + 5, none⟩ = some (.int .i64 p.st) ∧ w.cell? ⟨g, o + 6, none⟩ = some (.int .i64 p.ti)

theorem At7.below {w w' : World} {g o : Nat} {p : P7} (h : At7 w g o p) (hb : Below w.heap.size w w') : At7 w' g o p := by
  obtain ⟨h0, h1, h2, h3, h4, h5, h6⟩ := h
  have hg := block_lt_of_cell h0
  exact ⟨by rw [hb.cell (p := ⟨g, o, none⟩) hg]; exact h0, by rw [hb.cell (p := ⟨g, o + 1, none⟩) hg]; exact h1, by rw [hb.cell (p := ⟨g, o + 2, none⟩) hg]; exact h2, by rw [hb.cell (p := ⟨g, o + 3, none⟩) hg]; exact h3, by rw [hb.cell (p := ⟨g, o + 4, none⟩) hg]; exact h4, by rw [hb.cell (p := ⟨g, o + 5, none⟩) hg]; exact h5, by rw [hb.cell (p := ⟨g, o + 6, none⟩) hg]; exact h6⟩
theorem At7.new (w : World) (p : P7) (t : TypeId) (fr : Nat × Nat) : At7 (w.alloc (.cells #[.int .i64 p.id, .int .i64 p.fr, .int .i64 p.to, .int .i64 p.am, .int .i64 p.cl, .int .i64 p.st, .int .i64 p.ti] t fr)) w.heap.size 0 p :=
  ⟨by rw [cell_new]; rfl, by rw [cell_new]; rfl, by rw [cell_new]; rfl, by rw [cell_new]; rfl, by rw [cell_new]; rfl, by rw [cell_new]; rfl, by rw [cell_new]; rfl⟩

end Go.Proofs.Ytlackjldopeigaa

/-
  pay: rows of payments, and whether two are one: the program's answer and the document's.
-/
namespace Go.Proofs.Ytlackjldopeigaa
open Go.RowKit
set_option linter.unusedVariables false
set_option linter.unusedSimpArgs false

set_option synthInstance.maxSize 1000 in
/-- Are two rows one? -/
def eqP (xs ys : List P7) : Bool := decide (xs = ys)
theorem eqP_yes {xs ys : List P7} (h : xs = ys) : eqP xs ys = true := by subst h; simp [eqP]
theorem eqP_no {xs ys : List P7} (h : ¬ xs = ys) : eqP xs ys = false := by simp [eqP, h]
theorem eqP_iff {xs ys : List P7} : eqP xs ys = true ↔ xs = ys := ⟨fun h => Classical.byContradiction fun k => (by rw [eqP_no k] at h; cases h), eqP_yes⟩

/-- A slice of payments. -/
def Pays (w : World) (a : Option Addr) (len : Nat) (A : List P7) : Prop :=
  len = A.length ∧ (A = [] ∨ ∃ b off, a = some ⟨b, off, none⟩ ∧ ∀ i, i < A.length → At7 w b (off + i * 7) (A.getD i p70))
theorem Pays.below {w w' : World} {a : Option Addr} {len : Nat} {A : List P7} (h : Pays w a len A) (hb : Below w.heap.size w w') : Pays w' a len A := by
  refine ⟨h.1, ?_⟩
  rcases h.2 with h0 | ⟨b, off, ha, hc⟩
  · exact .inl h0
  · exact .inr ⟨b, off, ha, fun i hi => (hc i hi).below hb⟩
theorem Pays.nil (w : World) (a : Option Addr) : Pays w a 0 [] := ⟨rfl, .inl rfl⟩

end Go.Proofs.Ytlackjldopeigaa

/-
  row: what waits: rows of payments, as plain lists.
-/
namespace Go.Proofs.Ytlackjldopeigaa
open Go.RowKit
set_option linter.unusedVariables false
set_option linter.unusedSimpArgs false

/-- May a payment stand ahead of another one? -/
def qLe (a b : P7) : Bool := decide (a.fr < b.fr) || (decide (a.fr = b.fr) && decide (a.cl ≤ b.cl))
theorem qLe_iff {a b : P7} : qLe a b = true ↔ a.fr < b.fr ∨ (a.fr = b.fr ∧ a.cl ≤ b.cl) := by simp [qLe]
theorem qLe_not {a b : P7} : qLe a b = false ↔ b.fr < a.fr ∨ (a.fr = b.fr ∧ b.cl < a.cl) := by
  rw [← Bool.not_eq_true, qLe_iff]
  omega
theorem qLe_refl (a : P7) : qLe a a = true := by rw [qLe_iff]; omega
theorem qLe_trans {a b c : P7} (h : qLe a b = true) (k : qLe b c = true) : qLe a c = true := by
  rw [qLe_iff] at *
  omega
theorem qLe_total {a b : P7} (h : qLe a b = false) : qLe b a = true := by
  rw [qLe_not] at h
  rw [qLe_iff]
  omega
/-- How the program compares two. -/
def cmpI (x y : Int) : Int := if x < y then -1 else if y < x then 1 else 0
def orI (x y : Int) : Int := if x = 0 then y else x
def qOrd (a b : P7) : Int := orI (cmpI a.fr b.fr) (cmpI a.cl b.cl)
theorem qOrd_pos (a b : P7) : decide (0 < qOrd a b) = !qLe a b := by
  rw [Bool.eq_iff_iff]
  simp only [decide_eq_true_eq, Bool.not_eq_true', qLe_not]
  unfold qOrd orI cmpI
  constructor
  · intro h; split at h <;> split at h <;> simp_all <;> omega
  · intro h; rcases h with h | h <;> split <;> simp_all <;> omega
theorem qOrd_nn (a b : P7) : decide (0 ≤ qOrd a b) = qLe b a := by
  rw [Bool.eq_iff_iff]
  simp only [decide_eq_true_eq, qLe_iff]
  unfold qOrd orI cmpI
  constructor
  · intro h; split at h <;> split at h <;> simp_all <;> omega
  · intro h; rcases h with h | h <;> split <;> simp_all <;> omega

/-- Is there one of this ID, and where? -/
def qHas (l : List P7) (x : Int) : Bool := l.any fun p => p.id == x
def qAt (l : List P7) (x : Int) : Nat := l.findIdx fun p => p.id == x
def qFind (l : List P7) (x : Int) : Int := if qHas l x then (qAt l x : Nat) else -1

theorem getD_get {l : List P7} {i : Nat} (h : i < l.length) : l.getD i p70 = l[i] := by simp [List.getD_eq_getElem?_getD, h]
theorem getD_in {l : List P7} {i : Nat} (h : i < l.length) : l.getD i p70 ∈ l := by rw [getD_get h]; exact List.getElem_mem h
theorem in_getD {l : List P7} {p : P7} (h : p ∈ l) : ∃ i, i < l.length ∧ l.getD i p70 = p := by
  obtain ⟨i, hi, e⟩ := List.mem_iff_getElem.1 h
  exact ⟨i, hi, by rw [getD_get hi]; exact e⟩
theorem getD_take {l : List P7} {i k : Nat} (h : i < k) : (l.take k).getD i p70 = l.getD i p70 := by
  simp only [List.getD_eq_getElem?_getD]
  rw [List.getElem?_take_of_lt h]
theorem getD_drop {l : List P7} {i k : Nat} : (l.drop k).getD i p70 = l.getD (k + i) p70 := by
  simp [List.getD_eq_getElem?_getD]
theorem getD_left {l m : List P7} {i : Nat} (h : i < l.length) : (l ++ m).getD i p70 = l.getD i p70 := by
  simp [List.getD_eq_getElem?_getD, List.getElem?_append_left h]
theorem getD_right {l m : List P7} {i : Nat} (h : l.length ≤ i) : (l ++ m).getD i p70 = m.getD (i - l.length) p70 := by
  simp [List.getD_eq_getElem?_getD, List.getElem?_append_right h]
theorem ext_getD {l m : List P7} (h : l.length = m.length) (k : ∀ i, i < l.length → l.getD i p70 = m.getD i p70) : l = m := by
  refine List.ext_getElem h fun i h1 h2 => ?_
  have := k i h1
  rwa [getD_get h1, getD_get h2] at this

/-- The first place at which q holds. -/
theorem findIdx_of {q : P7 → Bool} {l : List P7} {k : Nat} (hk : k ≤ l.length) (h1 : ∀ t, t < k → q (l.getD t p70) = false) (h2 : k < l.length → q (l.getD k p70) = true) : l.findIdx q = k := by
  by_cases hlt : k < l.length
  · rw [List.findIdx_eq hlt]
    refine ⟨by rw [← getD_get hlt]; exact h2 hlt, fun j hj => ?_⟩
    rw [← getD_get (by omega)]
    exact h1 j hj
  · have e : k = l.length := by omega
    rw [e]
    rw [List.findIdx_eq_length]
    intro x hx
    obtain ⟨i, hi, rfl⟩ := in_getD hx
    exact h1 i (by omega)
theorem findIdx_lt {q : P7 → Bool} {l : List P7} {t : Nat} (h : t < l.findIdx q) : q (l.getD t p70) = false := by
  have hl := List.findIdx_le_length (p := q) (xs := l)
  rw [getD_get (by omega)]
  have := List.not_of_lt_findIdx h
  simpa using this
theorem findIdx_at {q : P7 → Bool} {l : List P7} (h : l.findIdx q < l.length) : q (l.getD (l.findIdx q) p70) = true := by
  rw [getD_get h]
  exact List.findIdx_getElem (w := h)

theorem has_iff {l : List P7} {x : Int} : qHas l x = true ↔ ∃ p ∈ l, p.id = x := by simp [qHas]
theorem has_not {l : List P7} {x : Int} : qHas l x = false ↔ ∀ p ∈ l, ¬ p.id = x := by simp [qHas]
theorem at_lt {l : List P7} {x : Int} (h : qHas l x = true) : qAt l x < l.length := by
  obtain ⟨p, hp, e⟩ := has_iff.1 h
  exact List.findIdx_lt_length_of_exists ⟨p, hp, by simpa using e⟩
theorem at_id {l : List P7} {x : Int} (h : qHas l x = true) : (l.getD (qAt l x) p70).id = x := by
  have h0 : ((l.getD (qAt l x) p70).id == x) = true := findIdx_at (q := fun p => p.id == x) (l := l) (at_lt h)
  exact beq_iff_eq.1 h0
theorem at_no {l : List P7} {x : Int} {t : Nat} (h : t < qAt l x) : ¬ (l.getD t p70).id = x := by
  have h0 : ((l.getD t p70).id == x) = false := findIdx_lt (q := fun p => p.id == x) h
  exact beq_eq_false_iff_ne.1 h0
theorem find_yes {l : List P7} {x : Int} {k : Nat} (hk : k < l.length) (h1 : ∀ t, t < k → ¬ (l.getD t p70).id = x) (h2 : (l.getD k p70).id = x) : qHas l x = true ∧ qAt l x = k :=
  ⟨has_iff.2 ⟨_, getD_in hk, h2⟩, findIdx_of (by omega) (fun t ht => by simpa using h1 t ht) (fun _ => by simpa using h2)⟩
theorem find_no {l : List P7} {x : Int} (h : ∀ t, t < l.length → ¬ (l.getD t p70).id = x) : qHas l x = false := by
  rw [has_not]
  intro p hp
  obtain ⟨i, hi, rfl⟩ := in_getD hp
  exact h i hi
theorem qFind_yes {l : List P7} {x : Int} (h : qHas l x = true) : qFind l x = (qAt l x : Nat) := by simp [qFind, h]
theorem qFind_no {l : List P7} {x : Int} (h : qHas l x = false) : qFind l x = -1 := by simp [qFind, h]
theorem qFind_nn (l : List P7) (x : Int) : decide (0 ≤ qFind l x) = qHas l x := by
  cases h : qHas l x with
  | true => rw [qFind_yes h]; simp
  | false => rw [qFind_no h]; rfl
theorem qFind_neg (l : List P7) (x : Int) : decide (qFind l x < 0) = !qHas l x := by
  cases h : qHas l x with
  | true => rw [qFind_yes h, decide_eq_false (by omega)]; rfl
  | false => rw [qFind_no h]; rfl
theorem qFind_range (l : List P7) (x : Int) : -1 ≤ qFind l x ∧ qFind l x ≤ l.length := by
  cases h : qHas l x with
  | true => rw [qFind_yes h]; have := at_lt h; omega
  | false => rw [qFind_no h]; omega

/-- Two that may stand so. -/
def QR (a b : P7) : Prop := qLe a b = true ∧ ¬ a.id = b.id
def qOk : List P7 → Bool
  | [] => true
  | x :: l => (l.all fun y => qLe x y && !(x.id == y.id)) && qOk l
theorem qOk_iff {l : List P7} : qOk l = true ↔ l.Pairwise QR := by
  induction l with
  | nil => simp [qOk]
  | cons x l ih =>
    rw [qOk, List.pairwise_cons, Bool.and_eq_true, ih, List.all_eq_true]
    simp [QR]
/-- Is it a row? -/
def qIs (l : List P7) : Bool := decide (l.length ≤ 40) && qOk l
def Que (l : List P7) : Prop := l.length ≤ 40 ∧ l.Pairwise QR
theorem qIs_iff {l : List P7} : qIs l = true ↔ Que l := by simp [qIs, Que, qOk_iff]
theorem qIs_no {l : List P7} (h : ¬ Que l) : qIs l = false := by rw [← Bool.not_eq_true, qIs_iff]; exact h
theorem Que.nil : Que [] := ⟨by simp, List.Pairwise.nil⟩

theorem pw_at {l : List P7} (h : l.Pairwise QR) {i j : Nat} (hij : i < j) (hj : j < l.length) : QR (l.getD i p70) (l.getD j p70) := by
  rw [getD_get (by omega), getD_get hj]
  exact List.pairwise_iff_getElem.1 h i j (by omega) hj hij
theorem pw_of {l : List P7} (h : ∀ i j, i < j → j < l.length → QR (l.getD i p70) (l.getD j p70)) : l.Pairwise QR := by
  refine List.pairwise_iff_getElem.2 fun i j hi hj hij => ?_
  have := h i j hij hj
  rwa [getD_get hi, getD_get hj] at this
theorem pw_le {l : List P7} (h : l.Pairwise QR) {i j : Nat} (hij : i ≤ j) (hj : j < l.length) : qLe (l.getD i p70) (l.getD j p70) = true := by
  rcases Nat.lt_or_ge i j with h1 | h1
  · exact (pw_at h h1 hj).1
  · obtain rfl : i = j := by omega
    exact qLe_refl _
theorem pw_take {l : List P7} (h : l.Pairwise QR) (k : Nat) : (l.take k).Pairwise QR := h.sublist (List.take_sublist k l)

/-- One more of it is in order. -/
theorem pw_step {l : List P7} {k : Nat} (hk : k < l.length) (h : (l.take k).Pairwise QR) (hid : qHas (l.take k) (l.getD k p70).id = false) (hle : 0 < k → qLe (l.getD (k - 1) p70) (l.getD k p70) = true) : (l.take (k + 1)).Pairwise QR := by
  rw [take_snocA l p70 k hk, List.pairwise_append]
  refine ⟨h, by simp, fun a ha b hb => ?_⟩
  simp only [List.mem_singleton] at hb
  subst hb
  refine ⟨?_, has_not.1 hid a ha⟩
  obtain ⟨i, hi, rfl⟩ := in_getD ha
  have hik : i < k := by simp at hi; omega
  have h1 := pw_le h (i := i) (j := k - 1) (by omega) (by simp; omega)
  rw [getD_take hik] at h1 ⊢
  rw [getD_take (by omega)] at h1
  exact qLe_trans h1 (hle (by omega))
theorem pw_no_id {l : List P7} {k : Nat} (hk : k < l.length) (hid : qHas (l.take k) (l.getD k p70).id = true) : ¬ l.Pairwise QR := by
  intro h
  obtain ⟨p, hp, e⟩ := has_iff.1 hid
  obtain ⟨i, hi, rfl⟩ := in_getD hp
  have hik : i < k := by simp at hi; omega
  rw [getD_take hik] at e
  exact (pw_at h hik hk).2 e
theorem pw_no_le {l : List P7} {k : Nat} (h0 : 0 < k) (hk : k < l.length) (hle : qLe (l.getD (k - 1) p70) (l.getD k p70) = false) : ¬ l.Pairwise QR := by
  intro h
  have := (pw_at h (i := k - 1) (j := k) (by omega) hk).1
  rw [hle] at this
  cases this
/-- That the first of its ID stands at k. -/
theorem find_first {l : List P7} {k : Nat} (hk : k < l.length) : (qFind l (l.getD k p70).id != (k : Int)) = qHas (l.take k) (l.getD k p70).id := by
  have hh : qHas l (l.getD k p70).id = true := has_iff.2 ⟨_, getD_in hk, rfl⟩
  rw [qFind_yes hh]
  cases h : qHas (l.take k) (l.getD k p70).id with
  | true =>
    obtain ⟨p, hp, e⟩ := has_iff.1 h
    obtain ⟨i, hi, rfl⟩ := in_getD hp
    have hik : i < k := by simp at hi; omega
    rw [getD_take hik] at e
    have : ¬ qAt l (l.getD k p70).id = k := fun hq => at_no (l := l) (x := (l.getD k p70).id) (t := i) (by omega) e
    simp only [bne_iff_ne, ne_eq]
    omega
  | false =>
    have : qAt l (l.getD k p70).id = k := (find_yes hk (fun t ht hq => has_not.1 h (l.getD t p70) (by rw [← getD_take ht]; exact getD_in (by simp; omega)) hq) rfl).2
    rw [this]
    simp

/-- A payment at a place; a list without one. -/
def qIns (l : List P7) (k : Nat) (p : P7) : List P7 := l.take k ++ ([p] ++ l.drop k)
def qRest (l : List P7) (k : Nat) : List P7 := l.take k ++ l.drop (k + 1)
theorem qIns_len {l : List P7} {k : Nat} {p : P7} (hk : k ≤ l.length) : (qIns l k p).length = l.length + 1 := by simp [qIns]; omega
theorem qRest_len {l : List P7} {k : Nat} (hk : k < l.length) : (qRest l k).length = l.length - 1 := by simp [qRest]; omega
theorem qIns_lo {l : List P7} {k i : Nat} {p : P7} (hk : k ≤ l.length) (hi : i < k) : (qIns l k p).getD i p70 = l.getD i p70 := by
  unfold qIns
  rw [getD_left (by simp; omega), getD_take hi]
theorem qIns_at {l : List P7} {k : Nat} {p : P7} (hk : k ≤ l.length) : (qIns l k p).getD k p70 = p := by
  unfold qIns
  rw [getD_right (by simp; omega), getD_left (by simp; omega)]
  simp [Nat.min_eq_left hk]
theorem qIns_hi {l : List P7} {k i : Nat} {p : P7} (hk : k ≤ l.length) (hi : k < i) : (qIns l k p).getD i p70 = l.getD (i - 1) p70 := by
  unfold qIns
  rw [getD_right (by simp; omega), getD_right (by simp; omega), getD_drop]
  simp only [List.length_take, List.length_singleton, Nat.min_eq_left hk]
  congr 1
  omega
theorem qRest_lo {l : List P7} {k i : Nat} (hk : k < l.length) (hi : i < k) : (qRest l k).getD i p70 = l.getD i p70 := by
  unfold qRest
  rw [getD_left (by simp; omega), getD_take hi]
theorem qRest_hi {l : List P7} {k i : Nat} (hk : k < l.length) (hi : k ≤ i) : (qRest l k).getD i p70 = l.getD (i + 1) p70 := by
  unfold qRest
  rw [getD_right (by simp; omega), getD_drop]
  simp only [List.length_take, Nat.min_eq_left (Nat.le_of_lt hk)]
  congr 1
  omega
theorem qIns_mem {l : List P7} {k : Nat} {p q : P7} : q ∈ qIns l k p ↔ q = p ∨ q ∈ l := by
  unfold qIns
  rw [List.mem_append, List.mem_append, List.mem_singleton]
  have : q ∈ l ↔ q ∈ l.take k ∨ q ∈ l.drop k := by rw [← List.mem_append, List.take_append_drop]
  rw [this]
  constructor
  · rintro (h | h | h)
    · exact .inr (.inl h)
    · exact .inl h
    · exact .inr (.inr h)
  · rintro (h | h | h)
    · exact .inr (.inl h)
    · exact .inl h
    · exact .inr (.inr h)
theorem qRest_mem {l : List P7} {k : Nat} {q : P7} (h : q ∈ qRest l k) : q ∈ l := by
  unfold qRest at h
  rw [List.mem_append] at h
  rcases h with h | h
  · exact List.mem_of_mem_take h
  · exact List.mem_of_mem_drop h
theorem drop_mid {l : List P7} {k : Nat} {p : P7} (hk : k ≤ l.length) : (l.take k ++ ([p] ++ l.drop k)).drop (k + 1) = l.drop k := by
  rw [List.drop_append]
  simp only [List.length_take, Nat.min_eq_left hk]
  rw [List.drop_eq_nil_of_le (by simp; omega), show k + 1 - k = 1 by omega]
  rfl
theorem rest_ins {l : List P7} {k : Nat} {p : P7} (hk : k ≤ l.length) : qRest (qIns l k p) k = l := by
  unfold qRest qIns
  rw [List.take_append_of_le_length (by simp; omega), List.take_take, Nat.min_self, drop_mid hk]
  exact List.take_append_drop k l
theorem pw_rest {l : List P7} (h : l.Pairwise QR) (k : Nat) : (qRest l k).Pairwise QR := by
  refine h.sublist ?_
  unfold qRest
  have : (l.take k ++ l.drop (k + 1)).Sublist (l.take k ++ l.drop k) := List.Sublist.append (List.Sublist.refl _) (by rw [← List.drop_drop]; exact List.drop_sublist 1 _)
  rwa [List.take_append_drop] at this
theorem pw_ins {l : List P7} (h : l.Pairwise QR) {k : Nat} {p : P7} (hid : qHas l p.id = false) (hk : k ≤ l.length) (h1 : ∀ t, t < k → qLe (l.getD t p70) p = true) (h2 : ∀ t, k ≤ t → t < l.length → qLe p (l.getD t p70) = true) : (qIns l k p).Pairwise QR := by
  refine pw_of fun i j hij hj => ?_
  rw [qIns_len hk] at hj
  rcases (by omega : i < k ∨ i = k ∨ k < i) with hi | hi | hi
  · rw [qIns_lo hk hi]
    rcases (by omega : j < k ∨ j = k ∨ k < j) with hj' | hj' | hj'
    · rw [qIns_lo hk hj']
      exact pw_at h hij (by omega)
    · subst hj'
      rw [qIns_at hk]
      exact ⟨h1 i hi, has_not.1 hid _ (getD_in (by omega))⟩
    · rw [qIns_hi hk hj']
      exact pw_at h (by omega) (by omega)
  · subst hi
    rw [qIns_at hk, qIns_hi hk hij]
    exact ⟨h2 _ (by omega) (by omega), fun e => has_not.1 hid _ (getD_in (l := l) (i := j - 1) (by omega)) e.symm⟩
  · rw [qIns_hi hk hi, qIns_hi hk (by omega)]
    exact pw_at h (by omega) (by omega)

/-- Behind all that may stand ahead of it; ahead of all that it may stand ahead of. -/
def qBeh (l : List P7) (p : P7) : Nat := l.findIdx fun x => !qLe x p
def qAhd (l : List P7) (p : P7) : Nat := l.findIdx fun x => qLe p x
theorem qBeh_le (l : List P7) (p : P7) : qBeh l p ≤ l.length := List.findIdx_le_length
theorem qAhd_le (l : List P7) (p : P7) : qAhd l p ≤ l.length := List.findIdx_le_length
theorem beh_lo {l : List P7} {p : P7} {t : Nat} (h : t < qBeh l p) : qLe (l.getD t p70) p = true := by
  have := findIdx_lt (q := fun x => !qLe x p) h
  simpa using this
theorem beh_hi {l : List P7} (hp : l.Pairwise QR) {p : P7} {t : Nat} (h : qBeh l p ≤ t) (ht : t < l.length) : qLe (l.getD t p70) p = false := by
  have hb : qBeh l p < l.length := by omega
  have h0 : (!qLe (l.getD (qBeh l p) p70) p) = true := findIdx_at (q := fun x => !qLe x p) (l := l) hb
  rw [Bool.not_eq_true'] at h0
  cases hq : qLe (l.getD t p70) p with
  | false => rfl
  | true =>
    rw [qLe_trans (pw_le hp h ht) hq] at h0
    cases h0
theorem ahd_lo {l : List P7} {p : P7} {t : Nat} (h : t < qAhd l p) : qLe p (l.getD t p70) = false := findIdx_lt (q := fun x => qLe p x) h
theorem ahd_hi {l : List P7} (hp : l.Pairwise QR) {p : P7} {t : Nat} (h : qAhd l p ≤ t) (ht : t < l.length) : qLe p (l.getD t p70) = true := by
  have hb : qAhd l p < l.length := by omega
  exact qLe_trans (findIdx_at (q := fun x => qLe p x) (l := l) hb) (pw_le hp h ht)
theorem le_no_mono {l : List P7} (hp : l.Pairwise QR) {p : P7} {i j : Nat} (hij : i ≤ j) (hj : j < l.length) (h : qLe (l.getD i p70) p = false) : qLe (l.getD j p70) p = false := by
  cases hq : qLe (l.getD j p70) p with
  | false => rfl
  | true =>
    rw [qLe_trans (pw_le hp hij hj) hq] at h
    cases h
theorem ahd_no_mono {l : List P7} (hp : l.Pairwise QR) {p : P7} {i j : Nat} (hij : i ≤ j) (hj : j < l.length) (h : qLe p (l.getD j p70) = false) : qLe p (l.getD i p70) = false := by
  cases hq : qLe p (l.getD i p70) with
  | false => rfl
  | true =>
    rw [qLe_trans hq (pw_le hp hij hj)] at h
    cases h
theorem pw_beh {l : List P7} (h : l.Pairwise QR) {p : P7} (hid : qHas l p.id = false) : (qIns l (qBeh l p) p).Pairwise QR :=
  pw_ins h hid (qBeh_le l p) (fun t ht => beh_lo ht) (fun t h1 h2 => qLe_total (beh_hi h h1 h2))
theorem pw_ahd {l : List P7} (h : l.Pairwise QR) {p : P7} (hid : qHas l p.id = false) : (qIns l (qAhd l p) p).Pairwise QR :=
  pw_ins h hid (qAhd_le l p) (fun t ht => qLe_total (ahd_lo ht)) (fun t h1 h2 => ahd_hi h h1 h2)

/-- Another class. -/
def setC (p : P7) (c : Int) : P7 := (p.1, p.2.1, p.2.2.1, p.2.2.2.1, c, p.2.2.2.2.2.1, p.2.2.2.2.2.2)

/-- The calls: what they answer. -/
def qPut (l : List P7) (p : P7) : List P7 := if qHas l p.id then l else if 40 ≤ l.length then l else qIns l (qBeh l p) p
def qPutE (l : List P7) (p : P7) : Int := if qHas l p.id then 6 else if 40 ≤ l.length then 3 else 0
def qDrop (l : List P7) (x : Int) : List P7 := if qHas l x then qRest l (qAt l x) else l
def qDropP (l : List P7) (x : Int) : P7 := if qHas l x then l.getD (qAt l x) p70 else p70
def qDropE (l : List P7) (x : Int) : Int := if qHas l x then 0 else 4
def qFront (l : List P7) (x : Int) : List P7 := if qHas l x then qIns (qDrop l x) (qAhd (qDrop l x) (qDropP l x)) (qDropP l x) else l
def qBack (l : List P7) (x : Int) : List P7 := if qHas l x then qIns (qDrop l x) (qBeh (qDrop l x) (qDropP l x)) (qDropP l x) else l
def qClass (l : List P7) (x c : Int) : List P7 := if qHas l x then qIns (qDrop l x) (qBeh (qDrop l x) (setC (qDropP l x) c)) (setC (qDropP l x) c) else l

theorem put_has {l : List P7} {p : P7} (h : qHas l p.id = true) : qPut l p = l ∧ qPutE l p = 6 := by simp [qPut, qPutE, h]
theorem put_full {l : List P7} {p : P7} (h : qHas l p.id = false) (k : 40 ≤ l.length) : qPut l p = l ∧ qPutE l p = 3 := by simp [qPut, qPutE, h, k]
theorem put_ins {l : List P7} {p : P7} (h : qHas l p.id = false) (k : l.length < 40) : qPut l p = qIns l (qBeh l p) p ∧ qPutE l p = 0 := by
  have : ¬ 40 ≤ l.length := by omega
  simp [qPut, qPutE, h, this]
theorem drop_no {l : List P7} {x : Int} (h : qHas l x = false) : qDrop l x = l ∧ qDropP l x = p70 ∧ qDropE l x = 4 := by simp [qDrop, qDropP, qDropE, h]
theorem drop_yes {l : List P7} {x : Int} (h : qHas l x = true) : qDrop l x = qRest l (qAt l x) ∧ qDropP l x = l.getD (qAt l x) p70 ∧ qDropE l x = 0 := by simp [qDrop, qDropP, qDropE, h]
theorem dropP_id {l : List P7} {x : Int} (h : qHas l x = true) : (qDropP l x).id = x := by rw [(drop_yes h).2.1]; exact at_id h
theorem front_no {l : List P7} {x : Int} (h : qHas l x = false) : qFront l x = l := by simp [qFront, h]
theorem back_no {l : List P7} {x : Int} (h : qHas l x = false) : qBack l x = l := by simp [qBack, h]
theorem class_no {l : List P7} {x c : Int} (h : qHas l x = false) : qClass l x c = l := by simp [qClass, h]
theorem front_yes {l : List P7} {x : Int} (h : qHas l x = true) : qFront l x = qIns (qDrop l x) (qAhd (qDrop l x) (qDropP l x)) (qDropP l x) := by simp [qFront, h]
theorem back_yes {l : List P7} {x : Int} (h : qHas l x = true) : qBack l x = qIns (qDrop l x) (qBeh (qDrop l x) (qDropP l x)) (qDropP l x) := by simp [qBack, h]
theorem class_yes {l : List P7} {x c : Int} (h : qHas l x = true) : qClass l x c = qIns (qDrop l x) (qBeh (qDrop l x) (setC (qDropP l x) c)) (setC (qDropP l x) c) := by simp [qClass, h]

theorem drop_len {l : List P7} {x : Int} (h : qHas l x = true) : (qDrop l x).length = l.length - 1 := by rw [(drop_yes h).1]; exact qRest_len (at_lt h)
theorem drop_le (l : List P7) (x : Int) : (qDrop l x).length ≤ l.length := by
  cases h : qHas l x with
  | true => rw [drop_len h]; omega
  | false => rw [(drop_no h).1]; omega
/-- Who is gone is not there. -/
theorem drop_has {l : List P7} (hp : l.Pairwise QR) {x : Int} : qHas (qDrop l x) x = false := by
  cases h : qHas l x with
  | false => rw [(drop_no h).1]; exact h
  | true =>
    rw [(drop_yes h).1]
    have hk := at_lt h
    refine find_no fun t ht => ?_
    rw [qRest_len hk] at ht
    by_cases h1 : t < qAt l x
    · rw [qRest_lo hk h1]
      exact at_no h1
    · rw [qRest_hi hk (by omega)]
      intro e
      exact (pw_at hp (i := qAt l x) (j := t + 1) (by omega) (by omega)).2 (by rw [at_id h, e])
theorem Que.drop {l : List P7} (h : Que l) (x : Int) : Que (qDrop l x) := by
  refine ⟨Nat.le_trans (drop_le l x) h.1, ?_⟩
  unfold qDrop
  split
  · exact pw_rest h.2 _
  · exact h.2
theorem Que.put {l : List P7} (h : Que l) (p : P7) : Que (qPut l p) := by
  cases hh : qHas l p.id with
  | true => rw [(put_has hh).1]; exact h
  | false =>
    by_cases hf : 40 ≤ l.length
    · rw [(put_full hh hf).1]; exact h
    · rw [(put_ins hh (by omega)).1]
      exact ⟨by rw [qIns_len (qBeh_le _ _)]; omega, pw_beh h.2 hh⟩
theorem Que.front {l : List P7} (h : Que l) (x : Int) : Que (qFront l x) := by
  cases hh : qHas l x with
  | false => rw [front_no hh]; exact h
  | true =>
    rw [front_yes hh]
    have hl := at_lt hh
    exact ⟨by rw [qIns_len (qAhd_le _ _), drop_len hh]; have := h.1; omega, pw_ahd (h.drop x).2 (by rw [dropP_id hh]; exact drop_has h.2)⟩
theorem Que.back {l : List P7} (h : Que l) (x : Int) : Que (qBack l x) := by
  cases hh : qHas l x with
  | false => rw [back_no hh]; exact h
  | true =>
    rw [back_yes hh]
    have hl := at_lt hh
    exact ⟨by rw [qIns_len (qBeh_le _ _), drop_len hh]; have := h.1; omega, pw_beh (h.drop x).2 (by rw [dropP_id hh]; exact drop_has h.2)⟩
theorem Que.class {l : List P7} (h : Que l) (x c : Int) : Que (qClass l x c) := by
  cases hh : qHas l x with
  | false => rw [class_no hh]; exact h
  | true =>
    rw [class_yes hh]
    have hl := at_lt hh
    exact ⟨by rw [qIns_len (qBeh_le _ _), drop_len hh]; have := h.1; omega, pw_beh (h.drop x).2 (by show qHas _ (qDropP l x).id = false; rw [dropP_id hh]; exact drop_has h.2)⟩
theorem front_len {l : List P7} (x : Int) : (qFront l x).length = l.length := by
  cases hh : qHas l x with
  | false => rw [front_no hh]
  | true => rw [front_yes hh, qIns_len (qAhd_le _ _), drop_len hh]; have := at_lt hh; omega
theorem back_len {l : List P7} (x : Int) : (qBack l x).length = l.length := by
  cases hh : qHas l x with
  | false => rw [back_no hh]
  | true => rw [back_yes hh, qIns_len (qBeh_le _ _), drop_len hh]; have := at_lt hh; omega
theorem class_len {l : List P7} (x c : Int) : (qClass l x c).length = l.length := by
  cases hh : qHas l x with
  | false => rw [class_no hh]
  | true => rw [class_yes hh, qIns_len (qBeh_le _ _), drop_len hh]; have := at_lt hh; omega
theorem put_len (l : List P7) (p : P7) : (qPut l p).length ≤ l.length + 1 := by
  unfold qPut
  split
  · omega
  · split
    · omega
    · rw [qIns_len (qBeh_le _ _)]; omega

end Go.Proofs.Ytlackjldopeigaa

/-
  pay: is a payment ready? the program's answer and the document's.
-/
namespace Go.Proofs.Ytlackjldopeigaa
open Go.RowKit
set_option linter.unusedVariables false
set_option linter.unusedSimpArgs false

/-- Is it ready at a tick? -/
def readyB (s u t : Int) : Bool := decide (s ≤ t ∧ t ≤ u)
theorem readyB_no {s u t : Int} (h : t < s) : false = readyB s u t := by unfold readyB; symm; rw [decide_eq_false_iff_not]; omega
theorem readyB_rest {s u t : Int} (h : s ≤ t) : decide (t ≤ u) = readyB s u t := by simp [readyB, h]

theorem ready_any (i f o m c s u t : Int) (w : World) :
    Calls Try.prog 55 #[.agg #[.int .i64 i, .int .i64 f, .int .i64 o, .int .i64 m, .int .i64 c, .int .i64 s, .int .i64 u], .int .i64 t] w fun e w' => e = .returned (.bool (readyB s u t)) ∧ Below w.heap.size w w' := by
  rcases Int.lt_or_le t s with h | h
  · go_enter Try.func55, Try.ntmps55
    go_wp2
    go_ret
    exact ⟨rt_bool (readyB_no h), box_below _ _⟩
  · go_enter Try.func55, Try.ntmps55
    go_wp2
    go_ret
    exact ⟨rt_bool (readyB_rest h), box_below _ _⟩

theorem refReady_any (i f o m c s u t : Int) (w : World) :
    Calls Try.prog 44 #[.agg #[.int .i64 i, .int .i64 f, .int .i64 o, .int .i64 m, .int .i64 c, .int .i64 s, .int .i64 u], .int .i64 t] w fun e w' => e = .returned (.bool (readyB s u t)) ∧ Below w.heap.size w w' := by
  rcases Int.lt_or_le t s with h | h
  · go_enter Try.func44, Try.ntmps44
    go_wp2
    go_ret
    exact ⟨rt_bool (readyB_no h), box_below _ _⟩
  · go_enter Try.func44, Try.ntmps44
    go_wp2
    go_ret
    exact ⟨rt_bool (readyB_rest h), box_below _ _⟩

end Go.Proofs.Ytlackjldopeigaa

/-
  Rows of payments: what a call owns, cuts, and carries on.
-/
namespace Go.Proofs.Ytlackjldopeigaa
open Go.RowKit
set_option linter.unusedVariables false
set_option linter.unusedSimpArgs false

theorem infoPay : (Try.prog.info? 51).map (fun i => (i.zero, i.size, i.bytes)) = some (some (.agg #[.int .i64 0, .int .i64 0, .int .i64 0, .int .i64 0, .int .i64 0, .int .i64 0, .int .i64 0]), 7, 56) := by kernel_rfl
theorem sizePay : (Try.prog.info? 51).map (·.size) = some 7 := by kernel_rfl

/-- The cells of payments. -/
def payL : List P7 → List Value
  | [] => []
  | x :: l => .int .i64 x.id :: .int .i64 x.fr :: .int .i64 x.to :: .int .i64 x.am :: .int .i64 x.cl :: .int .i64 x.st :: .int .i64 x.ti :: payL l
theorem payL_length (A : List P7) : (payL A).length = A.length * 7 := by
  induction A with
  | nil => rfl
  | cons x l ih => simp only [payL, List.length_cons, ih]; omega
/-- A payment's j-th number. -/
def P7.nth (p : P7) (j : Nat) : Int := if j = 0 then p.id else if j = 1 then p.fr else if j = 2 then p.to else if j = 3 then p.am else if j = 4 then p.cl else if j = 5 then p.st else p.ti
theorem payL_nth (A : List P7) (i j : Nat) (h : i < A.length) (hj : j < 7) : (payL A)[i * 7 + j]? = some (.int .i64 ((A.getD i p70).nth j)) := by
  induction A generalizing i with
  | nil => simp at h
  | cons x l ih =>
    cases i with
    | zero =>
      rw [Nat.zero_mul, Nat.zero_add]
      rcases (by omega : j = 0 ∨ j = 1 ∨ j = 2 ∨ j = 3 ∨ j = 4 ∨ j = 5 ∨ j = 6) with rfl | rfl | rfl | rfl | rfl | rfl | rfl <;> rfl
    | succ i =>
      have := ih i (by simpa using h)
      rw [show (i + 1) * 7 + j = i * 7 + j + 7 by omega]
      simpa [payL] using this
theorem payL_append (A B : List P7) : payL (A ++ B) = payL A ++ payL B := by
  induction A with
  | nil => rfl
  | cons x l ih => simp [payL, ih]
theorem payL_one (A : List P7) : ∀ v ∈ payL A, v.oneCell' = true := by
  induction A with
  | nil => intro v hv; simp [payL] at hv
  | cons x l ih =>
    intro v hv
    simp only [payL, List.mem_cons] at hv
    rcases hv with rfl | rfl | rfl | rfl | rfl | rfl | rfl | hv
    · rfl
    · rfl
    · rfl
    · rfl
    · rfl
    · rfl
    · rfl
    · exact ih v hv
theorem At7.nth {w : World} {g o : Nat} {p : P7} (h : At7 w g o p) (j : Nat) (hj : j < 7) : w.cell? ⟨g, o + j, none⟩ = some (.int .i64 (p.nth j)) := by
  obtain ⟨h0, h1, h2, h3, h4, h5, h6⟩ := h
  rcases (by omega : j = 0 ∨ j = 1 ∨ j = 2 ∨ j = 3 ∨ j = 4 ∨ j = 5 ∨ j = 6) with rfl | rfl | rfl | rfl | rfl | rfl | rfl
  · exact h0
  · exact h1
  · exact h2
  · exact h3
  · exact h4
  · exact h5
  · exact h6
theorem At7.of {w : World} {g o : Nat} {p : P7} (h : ∀ j, j < 7 → w.cell? ⟨g, o + j, none⟩ = some (.int .i64 (p.nth j))) : At7 w g o p :=
  ⟨h 0 (by omega), h 1 (by omega), h 2 (by omega), h 3 (by omega), h 4 (by omega), h 5 (by omega), h 6 (by omega)⟩

/-- A row of payments in full: its elements, its room. -/
structure PGood (w : World) (a : Option Addr) (n c : Nat) (L : List P7) : Prop where
  pays : Pays w a n L
  cap : n ≤ c
  max : c ≤ 9223372036854775807
  nil0 : a = none → c = 0
theorem PGood.below {w w' : World} {a : Option Addr} {n c : Nat} {L : List P7} (h : PGood w a n c L) (k : Below w.heap.size w w') : PGood w' a n c L := ⟨h.pays.below k, h.cap, h.max, h.nil0⟩
theorem PGood.nil (w : World) : PGood w none 0 0 [] := ⟨Pays.nil _ _, Nat.le_refl _, by omega, fun _ => rfl⟩
theorem PGood.len {w : World} {a : Option Addr} {n c : Nat} {L : List P7} (h : PGood w a n c L) : n = L.length := h.pays.1
theorem PGood.at {w : World} {a : Option Addr} {n c : Nat} {L : List P7} (h : PGood w a n c L) {i : Nat} (hi : i < n) : ∃ b off, a = some ⟨b, off, none⟩ ∧ ∀ j, j < n → At7 w b (off + j * 7) (L.getD j p70) := by
  have hl := h.pays.1
  rcases h.pays.2 with h0 | ⟨b, off, ha, hc⟩
  · subst h0; simp at hl; omega
  · exact ⟨b, off, ha, fun j hj => hc j (by omega)⟩

theorem PGood.own {w : World} {B : Nat} {v : Value} {n : Nat} {A : List P7} (h : w.ownsRow B 51 7 v n (payL A)) : ∃ a cap, v = .slice a A.length cap ∧ PGood w a A.length cap A ∧ ∀ x, a = some x → B ≤ x.block := by
  have hn : n = A.length := by have := h.1; rw [payL_length] at this; omega
  subst hn
  rcases h.2 with ⟨rfl, h0⟩ | ⟨g, cap, cur, rfl, hB, _, hc, hm, _⟩
  · have : A = [] := List.length_eq_zero_iff.mp h0
    subst this
    exact ⟨none, 0, rfl, PGood.nil w, fun x hx => by cases hx⟩
  · refine ⟨some ⟨g, 0, none⟩, cap, rfl, ⟨⟨rfl, .inr ⟨g, 0, rfl, fun i hi => At7.of fun j hj => ?_⟩⟩, hc, by unfold maxLen at hm; omega, fun h => by simp at h⟩, fun x hx => by cases hx; exact hB⟩
    rw [Nat.zero_add, h.cellAt (i * 7 + j) (by omega), payL_nth A i j hi hj]
/-- A block beside it is written. -/
theorem PGood.far {w : World} {a : Option Addr} {n c : Nat} {L : List P7} (h : PGood w a n c L) {g : Nat} (hne : ∀ x, a = some x → x.block ≠ g) (cs : Array Value) : PGood (w.setRow g cs) a n c L := by
  refine ⟨⟨h.pays.1, ?_⟩, h.cap, h.max, h.nil0⟩
  rcases h.pays.2 with h0 | ⟨b, off, ha, hc⟩
  · exact .inl h0
  · refine .inr ⟨b, off, ha, fun i hi => At7.of fun j hj => ?_⟩
    have hb : b ≠ g := hne _ ha
    have := (hc i hi).nth j hj
    unfold World.cell? at this ⊢
    rw [setRow_other _ _ _ _ (by simpa using hb)]
    exact this

theorem Pays.src {w : World} {ad : Addr} {n : Nat} {A : List P7} (h : Pays w (some ad) n A) : ∀ j v, (payL A)[j]? = some v → w.cell? (ad.add j) = some v := by
  intro j v hj
  have hjl : j < A.length * 7 := by rw [← payL_length]; exact (List.getElem?_eq_some_iff.1 hj).1
  rcases h.2 with hz | ⟨b, off, ha, hc⟩
  · subst hz; simp at hjl
  · simp at ha
    subst ha
    have c0 := payL_nth A (j / 7) (j % 7) (by omega) (by omega)
    have d0 := (hc (j / 7) (by omega)).nth (j % 7) (by omega)
    rw [show j / 7 * 7 + j % 7 = j by omega, hj] at c0
    rw [Addr.add_flat, show off + j = off + j / 7 * 7 + j % 7 by omega, d0, ← c0]

/-- Where the cut a[k:] begins. -/
abbrev pcut (a : Option Addr) (c k : Nat) : Option Addr := if c = k then a else Option.map (fun x => x.add (k * 7)) a
theorem PGood.take {w : World} {a : Option Addr} {n c : Nat} {L : List P7} (h : PGood w a n c L) (k : Nat) (hk : k ≤ n) : PGood w a k c (L.take k) := by
  have hl := h.pays.1
  refine ⟨⟨by simp; omega, ?_⟩, by have := h.cap; omega, h.max, h.nil0⟩
  rcases h.pays.2 with h0 | ⟨b, off, ha, hc⟩
  · subst h0; exact .inl (by simp)
  · refine .inr ⟨b, off, ha, fun i hi => ?_⟩
    have hik : i < k := by simp at hi; omega
    have : (L.take k).getD i p70 = L.getD i p70 := by
      simp only [List.getD_eq_getElem?_getD]
      rw [List.getElem?_take_of_lt hik]
    rw [this]
    exact hc i (by omega)
theorem PGood.from {w : World} {a : Option Addr} {n c : Nat} {L : List P7} (h : PGood w a n c L) (k : Nat) (hk : k ≤ n) : PGood w (pcut a c k) (n - k) (c - k) (L.drop k) := by
  have hl := h.pays.1
  have hc0 := h.cap
  refine ⟨⟨by simp; omega, ?_⟩, by omega, by have := h.max; omega, fun hn => ?_⟩
  · by_cases hlt : k < n
    · rcases h.pays.2 with h0 | ⟨b, off, ha, hc⟩
      · subst h0; simp at hl; omega
      · refine .inr ⟨b, off + k * 7, ?_, fun i hi => ?_⟩
        · rw [pcut, if_neg (by omega), ha]
          simp [Addr.add_flat]
        · have hi' : k + i < L.length := by simp at hi; omega
          have := hc (k + i) hi'
          rw [show (L.drop k).getD i p70 = L.getD (k + i) p70 by simp [List.getD_eq_getElem?_getD], show off + k * 7 + i * 7 = off + (k + i) * 7 by omega]
          exact this
    · exact .inl (List.drop_eq_nil_of_le (by omega))
  · by_cases hc : c = k
    · omega
    · simp only [pcut, if_neg hc] at hn
      have := h.nil0 (by simpa using hn)
      omega
theorem PGood.lit1 (w : World) (p : P7) : PGood (w.alloc (.cells #[.int .i64 p.id, .int .i64 p.fr, .int .i64 p.to, .int .i64 p.am, .int .i64 p.cl, .int .i64 p.st, .int .i64 p.ti] 51)) (some ⟨w.heap.size, 0, none⟩) 1 1 [p] :=
  ⟨⟨rfl, .inr ⟨w.heap.size, 0, rfl, fun i hi => by
    obtain rfl : i = 0 := by simp at hi; omega
    exact At7.new w p _ _⟩⟩, Nat.le_refl _, by omega, fun h => by cases h⟩

theorem payInfo : ∃ i, Try.prog.info? 51 = some i ∧ i.zero = some (.agg #[.int .i64 0, .int .i64 0, .int .i64 0, .int .i64 0, .int .i64 0, .int .i64 0, .int .i64 0]) ∧ i.size = 7 ∧ i.bytes = 56 := info_parts infoPay

/-- append of a row of payments onto nil or onto one that the call owns. -/
theorem run_append_pays {w : World} (ty : TypeId) (base : Nat) (v : Value) (n : Nat) (xs : List P7) (hown : w.ownsRow base 51 7 v n (payL xs)) (ad : Option Addr) (m c : Nat) (ys : List P7) (hS : PGood w ad m c ys) (h63 : n + m ≤ 1000000) (hbase : base ≤ w.heap.size) :
    ∃ v' w', (Builtin.append_ #[23, 23] ty #[v, .slice ad m c]).run Try.prog w = .ok v' w' ∧ w'.ownsRow base 51 7 v' (n + m) (payL (xs ++ ys)) ∧ w.grownBy w' v.ownBlock := by
  obtain ⟨i, hi, hz, hs, hby⟩ := payInfo
  have hl := hS.pays.1
  cases ad with
  | none =>
    have hc := hS.nil0 rfl
    have hm : m = 0 := by have := hS.cap; omega
    subst hm hc
    have hys : ys = [] := List.length_eq_zero_iff.mp hl.symm
    subst hys
    exact ⟨v, w, run_append_owned_none w base 23 ty 51 i 7 Try.underlying23 hi v n _ hown, by simpa using hown, World.grownBy.refl _ _⟩
  | some ad =>
    obtain ⟨v', w', hr, h1, h2, _⟩ := run_append_own w base 23 ty 51 i _ 7 56 Try.underlying23 hi hz hs hby rfl (by decide) v n _ hown ad m c (payL ys) (by rw [payL_length]; omega) hS.pays.src (payL_one ys) (by unfold maxLen; omega) (by omega) hbase
    exact ⟨v', w', hr, by rw [payL_append]; exact h1, h2⟩

theorem wpList_append_pays {w : World} {ops : Array Oper} {rest : List Oper} {o : Oper} {a : Act} {Q : Exit → Act → World → Prop} (hgd : o.guard = none) (s x : Operand)
    (ho : o.op = .call { callee := .builtin .append, args := #[s, x], argTypes := #[23, 23] })
    (base : Nat) (v : Value) (n : Nat) (xs : List P7) (hs : a.eval s = v) (hown : w.ownsRow base 51 7 v n (payL xs)) (ad : Option Addr) (m c : Nat) (ys : List P7) (hx : a.eval x = .slice ad m c) (hS : PGood w ad m c ys) (h63 : n + m ≤ 1000000) (hbase : base ≤ w.heap.size)
    (h : ∀ v' w', w'.ownsRow base 51 7 v' (n + m) (payL (xs ++ ys)) → w.grownBy w' v.ownBlock → wpList Try.prog ops Q rest (a.put o.dst v') w') : wpList Try.prog ops Q (o :: rest) a w := by
  refine wpList_plain hgd fun K hK => ?_
  obtain ⟨v', w', hrun, h1, h2⟩ := run_append_pays o.type base v n xs hown ad m c ys hS h63 hbase
  unfold Oper.wp execOp
  simp only [ho, resolve, invoke, builtin, Sem.run_bind, Sem.run_pure, Result.andThen_ok, List.map_toArray, List.map_cons, List.map_nil, hs, hx, hrun]
  exact hK _ _ (h v' w' h1 h2)

/-- append, as one step of a region that draws. -/
theorem step_append_pays {w : World} {ops : Array Oper} {o : Oper} {a : Act} {K : Act → World → Prop} {Q : Exit → Act → World → Prop} {E : Prop} (hgd : o.guard = none) (s x : Operand)
    (ho : o.op = .call { callee := .builtin .append, args := #[s, x], argTypes := #[23, 23] })
    (base : Nat) (v : Value) (n : Nat) (xs : List P7) (hs : a.eval s = v) (hown : w.ownsRow base 51 7 v n (payL xs)) (ad : Option Addr) (m c : Nat) (ys : List P7) (hx : a.eval x = .slice ad m c) (hS : PGood w ad m c ys) (h63 : n + m ≤ 1000000) (hbase : base ≤ w.heap.size)
    (h : ∀ v' w', w'.ownsRow base 51 7 v' (n + m) (payL (xs ++ ys)) → w.grownBy w' v.ownBlock → K (a.put o.dst v') w') :
    if Region.wanted o (yielded ops a.tmps) = true then Oper.wp Try.prog o a w K Q else E := by
  have hw : Region.wanted o (yielded ops a.tmps) = true := by simp [Region.wanted, hgd]
  rw [if_pos hw]
  obtain ⟨v', w', hrun, h1, h2⟩ := run_append_pays o.type base v n xs hown ad m c ys hS h63 hbase
  unfold Oper.wp
  simp [execOp, ho, resolve, invoke, builtin, hs, hx, hrun, Result.andThen]
  exact h v' w' h1 h2

/-- What a call that makes a row leaves. -/
def PEnd (w : World) (L : List P7) (e : Ending) (w' : World) : Prop := ∃ a c, e = .returned (.slice a L.length c) ∧ PGood w' a L.length c L ∧ (∀ x, a = some x → w.heap.size ≤ x.block) ∧ Below w.heap.size w w'

end Go.Proofs.Ytlackjldopeigaa

/-
  A region that draws its order and holds calls that make memory, walked once, operation by operation: each operation is told what it leaves (a fact of its slot that stays true in every later world), whatever the order.
-/
namespace Go.Proofs.Ytlackjldopeigaa
open Go.RowKit
set_option linter.unusedVariables false

/-- Where operation i lays its value. -/
def dstOf (ops : List Oper) (i : Nat) : Nat := ((ops[i]?).bind (·.dst)).getD 0

/-- What is asked of the text: every operation has a slot of its own among N, and is behind those that it waits for. -/
def shapely (N : Nat) : List Oper → Nat → List Nat → Bool
  | [], _, _ => true
  | o :: l, i, seen => (match o.dst with | some d => decide (d < N) && !seen.contains d && o.after.all (fun e => !Region.binds .any e || decide (e.on < i)) && o.guard.all (fun g => decide (g.1 < i)) && shapely N l (i + 1) (d :: seen) | none => false)

theorem shapely_spec {N : Nat} : ∀ (l : List Oper) (i : Nat) (seen : List Nat), shapely N l i seen = true → ∀ j o, l[j]? = some o →
    ∃ d, o.dst = some d ∧ d < N ∧ d ∉ seen ∧ (∀ e ∈ o.after, Region.binds .any e = true → e.on < i + j) ∧ (∀ j' o', j' < j → l[j']? = some o' → o'.dst ≠ some d) ∧ ∀ g, o.guard = some g → g.1 < i + j
  | [], _, _, _, j, o, h => by simp at h
  | x :: l, i, seen, hs, j, o, h => by
    rw [shapely] at hs
    cases hd : x.dst with
    | none => simp [hd] at hs
    | some d =>
      simp only [hd, Bool.and_eq_true, decide_eq_true_eq, Bool.not_eq_true', Array.all_eq_true_iff_forall_mem] at hs
      obtain ⟨⟨⟨⟨h1, h2⟩, h3⟩, h5⟩, h4⟩ := hs
      cases j with
      | zero =>
        simp at h
        subst h
        exact ⟨d, hd, h1, by simpa using h2, fun e he hb => by simpa [hb] using h3 e he, fun j' o' hj' => absurd hj' (by omega), fun g hg => by rw [hg] at h5; simpa using h5⟩
      | succ j =>
        simp at h
        obtain ⟨d', k1, k2, k3, k4, k5, k6⟩ := shapely_spec l (i + 1) (d :: seen) h4 j o h
        refine ⟨d', k1, k2, fun hm => k3 (by simp [hm]), fun e he hb => by have := k4 e he hb; omega, ?_, fun g hg => by have := k6 g hg; omega⟩
        intro j' o' hj' ho'
        cases j' with
        | zero =>
          simp at ho'
          subst ho'
          rw [hd]
          intro hh
          simp at hh
          exact k3 (by simp [hh])
        | succ j' => simp at ho'; exact k5 j' o' (by omega) ho'

/-- The frame behind the first k operations, with these values. -/
def layAll (ops : List Oper) (a : Act) (vals : Nat → Value) : Nat → Act
  | 0 => a
  | k + 1 => (layAll ops a vals k).put (some (dstOf ops k)) (vals k)

/-- A slot that no operation writes. -/
def apart (ops : List Oper) (s : Nat) : Bool := ops.all fun o => o.dst != some s

/-- The frame a is a0 but for the slots of the operations; the slot of each that has come up holds its fact. -/
structure Fits (ops : List Oper) (F : Nat → World → Value → Prop) (a0 : Act) (w0 : World) (done : Nat → Prop) (a : Act) (w : World) : Prop where
  below : Below w0.heap.size w0 w
  size : a.tmps.size = a0.tmps.size
  defers : a.defers = a0.defers
  old : ∀ s, apart ops s = true → a.tmps.getD s undef = a0.tmps.getD s undef
  fact : ∀ i, i < ops.length → done i → F i w (a.tmps.getD (dstOf ops i) undef)
  yet : ∀ i, i < ops.length → ¬ done i → a.tmps.getD (dstOf ops i) undef = a0.tmps.getD (dstOf ops i) undef

/-- Operation j waits for operation i. -/
def waits (ops : List Oper) (j i : Nat) : Bool := ((ops[j]?).map fun o => o.after.toList.any fun e => e.on == i && Region.binds .any e).getD false
/-- What has come up is behind what it waits for. -/
def Closed (ops : List Oper) (listed : Array Bool) : Prop := ∀ j o, ops[j]? = some o → listed.getD j false = true → ∀ e ∈ o.after, Region.binds .any e = true → listed.getD e.on false = true

/-- What an operation owes. -/
def Owes (P : Program) (ops : List Oper) (Q : Exit → Act → World → Prop) (F : Nat → World → Value → Prop) (a0 : Act) (w0 : World) (i : Nat) (o : Oper) : Prop :=
  ∀ a w, Below w0.heap.size w0 w → (∀ s, apart ops s = true → a.tmps.getD s undef = a0.tmps.getD s undef) →
    (∀ e ∈ o.after, Region.binds .any e = true → F e.on w (a.tmps.getD (dstOf ops e.on) undef)) →
    (∀ j, j < ops.length → waits ops j i = true → a.tmps.getD (dstOf ops j) undef = a0.tmps.getD (dstOf ops j) undef) →
    wpOp P ops.toArray Q i (fun a' w' => Below w.heap.size w w' ∧ ∃ v, a' = a.put o.dst v ∧ F i w' v) a w

theorem getD_put_same (a : Act) (d : Nat) (v : Value) (h : d < a.tmps.size) : (a.put (some d) v).tmps.getD d undef = v := by
  simp [Act.put, Array.getD, h]
theorem getD_put_ne (a : Act) (d s : Nat) (v : Value) (h : d ≠ s) : (a.put (some d) v).tmps.getD s undef = a.tmps.getD s undef := by
  simp only [Act.put, Array.getD_eq_getD_getElem?]
  rw [Array.getElem?_setIfInBounds_ne h]
theorem size_put (a : Act) (d : Option Nat) (v : Value) : (a.put d v).tmps.size = a.tmps.size := by
  cases d <;> simp [Act.put]
theorem defers_put (a : Act) (d : Option Nat) (v : Value) : (a.put d v).defers = a.defers := by
  cases d <;> simp [Act.put]

def cnt : List Bool → Nat
  | [] => 0
  | b :: l => (if b then 0 else 1) + cnt l
theorem cnt_set : ∀ (l : List Bool) (i : Nat), l[i]? = some false → cnt (l.set i true) + 1 = cnt l
  | [], i, h => by simp at h
  | b :: l, 0, h => by simp at h; subst h; simp [cnt]; omega
  | b :: l, i + 1, h => by
    have := cnt_set l i (by simpa using h)
    simp [cnt]
    omega
theorem cnt_zero : ∀ (l : List Bool) (i : Nat), cnt l = 0 → l[i]? ≠ some false
  | [], i, _ => by simp
  | b :: l, 0, h => by
    intro hh
    simp at hh
    subst hh
    simp [cnt] at h
  | b :: l, i + 1, h => by
    have := cnt_zero l i (by simp [cnt] at h; omega)
    simpa using this

theorem mem_ready {ops : List Oper} {listed : Array Bool} {i : Nat} : i ∈ Region.ready .any ops.toArray listed ↔ i < ops.length ∧ listed.getD i true = false ∧
    ∃ o, ops[i]? = some o ∧ ∀ e ∈ o.after, Region.binds .any e = true → listed.getD e.on false = true := by
  unfold Region.ready
  simp only [List.mem_filter, List.mem_range, Bool.and_eq_true, Bool.not_eq_true', List.size_toArray, List.getElem?_toArray]
  constructor
  · rintro ⟨h1, h2, h3⟩
    refine ⟨h1, h2, ops[i], List.getElem?_eq_getElem h1, ?_⟩
    rw [List.getElem?_eq_getElem h1] at h3
    simp only [Option.map_some, Option.getD_some, Array.all_eq_true_iff_forall_mem, Bool.or_eq_true, Bool.not_eq_true'] at h3
    intro e he hb
    rcases h3 e he with h | h
    · rw [h] at hb; simp at hb
    · exact h
  · rintro ⟨h1, h2, o, ho, h3⟩
    refine ⟨h1, h2, ?_⟩
    rw [ho]
    simp only [Option.map_some, Option.getD_some, Array.all_eq_true_iff_forall_mem, Bool.or_eq_true, Bool.not_eq_true']
    intro e he
    cases hb : Region.binds .any e with
    | false => exact .inl rfl
    | true => exact .inr (h3 e he hb)

theorem getD_listed (listed : Array Bool) (i : Nat) (b : Bool) : listed.getD i b = (listed.toList[i]?).getD b := by
  simp [Array.getD_eq_getD_getElem?]

section
variable {P : Program} {ops : List Oper} {Q : Exit → Act → World → Prop} {F : Nat → World → Value → Prop} {a0 : Act} {w0 : World}

/-- Where nothing may come up, all has come up. -/
theorem all_listed (hs : shapely a0.tmps.size ops 0 [] = true) (listed : Array Bool) (hl : listed.size = ops.length) (hr : Region.ready .any ops.toArray listed = []) :
    ∀ i, i < ops.length → listed.getD i false = true := by
  intro i
  induction i using Nat.strongRecOn with
  | _ i ih =>
    intro hi
    cases hc : listed.getD i true with
    | true =>
      have h1 : i < listed.size := by omega
      simp only [Array.getD, h1, dif_pos] at hc ⊢
      exact hc
    | false =>
      have hm : i ∈ Region.ready .any ops.toArray listed := by
        refine mem_ready.2 ⟨hi, hc, ops[i], List.getElem?_eq_getElem hi, ?_⟩
        intro e he hb
        obtain ⟨d, _, _, _, h4, _⟩ := shapely_spec ops 0 [] hs i ops[i] (List.getElem?_eq_getElem hi)
        have := h4 e he hb
        exact ih e.on (by omega) (by omega)
      rw [hr] at hm
      simp at hm

theorem facts_any (hs : shapely a0.tmps.size ops 0 [] = true) (mono : ∀ i w w' v, Below w.heap.size w w' → F i w v → F i w' v)
    (owes : ∀ i o, ops[i]? = some o → Owes P ops Q F a0 w0 i o) (fin : ∀ a w, Fits ops F a0 w0 (fun _ => True) a w → Q .normal a w) :
    ∀ (fuel : Nat) (listed : Array Bool) (a : Act) (w : World), listed.size = ops.length → cnt listed.toList ≤ fuel → Closed ops listed → Fits ops F a0 w0 (fun i => listed.getD i false = true) a w → wpAny P .any ops.toArray Q fuel listed a w := by
  intro fuel
  induction fuel with
  | zero =>
    intro listed a w hl hc hcl hf
    have hall : ∀ i, i < ops.length → listed.getD i false = true := by
      intro i hi
      have := cnt_zero listed.toList i (by omega)
      rw [getD_listed]
      have h1 : i < listed.toList.length := by simp; omega
      rw [List.getElem?_eq_getElem h1] at this ⊢
      simpa using this
    refine ⟨?_, fin a w ⟨hf.below, hf.size, hf.defers, hf.old, fun i hi _ => hf.fact i hi (hall i hi), fun i hi hn => absurd trivial hn⟩⟩
    apply List.eq_nil_iff_forall_not_mem.2
    intro i hi
    obtain ⟨h1, h2, _⟩ := mem_ready.1 hi
    have := hall i h1
    rw [getD_listed] at this h2
    cases h : listed.toList[i]? with
    | none => rw [h] at this; simp at this
    | some b => rw [h] at this h2; simp at this h2; rw [this] at h2; simp at h2
  | succ fuel ih =>
    intro listed a w hl hc hcl hf
    refine ⟨?_, ?_⟩
    · intro hr
      have hall := all_listed hs listed hl hr
      exact fin a w ⟨hf.below, hf.size, hf.defers, hf.old, fun i hi _ => hf.fact i hi (hall i hi), fun i hi hn => absurd trivial hn⟩
    · intro i hi
      obtain ⟨h1, h2, o, ho, h3⟩ := mem_ready.1 hi
      obtain ⟨d, k1, k2, _, k4, k5, _⟩ := shapely_spec ops 0 [] hs i o ho
      have hdi : dstOf ops i = d := by simp [dstOf, ho, k1]
      refine wpOp_mono ?_ (owes i o ho a w hf.below hf.old (fun e he hb => hf.fact e.on (by have := k4 e he hb; omega) (h3 e he hb)) (fun j hj hwj => hf.yet j hj (fun hdone => by
        unfold waits at hwj
        rw [List.getElem?_eq_getElem hj] at hwj
        simp only [Option.map_some, Option.getD_some, List.any_eq_true, Bool.and_eq_true, beq_iff_eq] at hwj
        obtain ⟨e, he, hei, hb⟩ := hwj
        have := hcl j ops[j] (List.getElem?_eq_getElem hj) hdone e (by simpa using he) hb
        rw [hei, getD_listed] at this
        rw [getD_listed] at h2
        cases h : listed.toList[i]? with
        | none => rw [h] at this; simp at this
        | some b => rw [h] at this h2; simp at this h2; rw [this] at h2; simp at h2)))
      rintro a' w' ⟨hb, v, rfl, hv⟩
      rw [k1]
      have hli : listed.toList[i]? = some false := by
        rw [getD_listed] at h2
        have h4 : i < listed.toList.length := by simp; omega
        rw [List.getElem?_eq_getElem h4] at h2 ⊢
        simpa using h2
      have hkeep : ∀ j, listed.getD j false = true → (listed.setIfInBounds i true).getD j false = true := by
        intro j hj
        rw [getD_listed] at hj ⊢
        rw [Array.toList_setIfInBounds]
        by_cases hji : i = j
        · subst hji; rw [hli] at hj; simp at hj
        · rw [List.getElem?_set_ne hji]; exact hj
      have hback : ∀ j, j ≠ i → (listed.setIfInBounds i true).getD j false = true → listed.getD j false = true := by
        intro j hji hj
        rw [getD_listed] at hj ⊢
        rw [Array.toList_setIfInBounds, List.getElem?_set_ne (Ne.symm hji)] at hj
        exact hj
      refine ih _ _ w' (by simpa using hl) ?_ ?_ ?_
      · have := cnt_set listed.toList i hli
        rw [Array.toList_setIfInBounds]
        omega
      · intro j oj hoj hj e he hb
        by_cases hji : j = i
        · subst hji
          rw [ho] at hoj
          simp at hoj
          subst hoj
          exact hkeep _ (h3 e he hb)
        · exact hkeep _ (hcl j oj hoj (hback j hji hj) e he hb)
      · refine ⟨hf.below.trans (hb.mono hf.below.size), by rw [size_put]; exact hf.size, by rw [defers_put]; exact hf.defers, ?_, ?_, ?_⟩
        · intro s hsl
          have hne : d ≠ s := by
            intro h
            subst h
            have := List.all_eq_true.1 hsl o (List.mem_of_getElem? ho)
            rw [k1] at this
            simp at this
          rw [getD_put_ne a d s v hne]
          exact hf.old s hsl
        · intro j hj hdone
          by_cases hji : j = i
          · subst hji
            rw [hdi, getD_put_same a d v (by rw [hf.size]; exact k2)]
            exact hv
          · have hdone' : listed.getD j false = true := by
              rw [getD_listed] at hdone ⊢
              rw [Array.toList_setIfInBounds, List.getElem?_set_ne (Ne.symm hji)] at hdone
              exact hdone
            obtain ⟨d', l1, l2, _, _, l5, _⟩ := shapely_spec ops 0 [] hs j ops[j] (List.getElem?_eq_getElem hj)
            have hdj : dstOf ops j = d' := by simp [dstOf, l1, hj]
            have hne : d ≠ d' := by
              intro h
              subst h
              rcases Nat.lt_or_gt_of_ne hji with h | h
              · exact k5 j ops[j] h (List.getElem?_eq_getElem hj) l1
              · exact l5 i o h ho k1
            have hfj := hf.fact j hj hdone'
            rw [hdj] at hfj ⊢
            rw [getD_put_ne a d d' v hne]
            exact mono j w w' _ hb hfj
        · intro j hj hnd
          have hji : j ≠ i := by
            intro h
            subst h
            apply hnd
            show (listed.setIfInBounds j true).getD j false = true
            rw [getD_listed, Array.toList_setIfInBounds]
            have h4 : j < listed.toList.length := by simp; omega
            rw [List.getElem?_set_self h4]
            rfl
          obtain ⟨d', l1, l2, _, _, l5, _⟩ := shapely_spec ops 0 [] hs j ops[j] (List.getElem?_eq_getElem hj)
          have hdj : dstOf ops j = d' := by simp [dstOf, l1, hj]
          have hne : d ≠ d' := by
            intro h
            subst h
            rcases Nat.lt_or_gt_of_ne hji with h | h
            · exact k5 j ops[j] h (List.getElem?_eq_getElem hj) l1
            · exact l5 i o h ho k1
          have hy := hf.yet j hj (fun h => hnd (hkeep j h))
          rw [hdj] at hy ⊢
          rw [getD_put_ne a d d' v hne]
          exact hy

/-- A region that draws its order: each operation owes its fact. -/
theorem region_facts {id : Nat} (hm : P.follows .mixedOrders = true) (hs : shapely a0.tmps.size ops 0 [] = true) (mono : ∀ i w w' v, Below w.heap.size w w' → F i w v → F i w' v)
    (owes : ∀ i o, ops[i]? = some o → Owes P ops Q F a0 w0 i o) (fin : ∀ a w, Fits ops F a0 w0 (fun _ => True) a w → Q .normal a w) : (Code.region id ops.toArray true).wp P Q a0 w0 := by
  refine wp_region_any hm (facts_any (F := F) (a0 := a0) (w0 := w0) hs mono owes fin _ _ a0 _ (by simp) ?_ ?_ ?_)
  · have : ∀ n, cnt (List.replicate n false) = n := by
      intro n
      induction n with
      | zero => rfl
      | succ n ih => simp [List.replicate_succ, cnt, ih]; omega
    simp [this]
  · intro j o ho h
    have hj : j < ops.length := (List.getElem?_eq_some_iff.1 ho).1
    rw [getD_listed] at h
    simp [hj] at h
  · refine ⟨(Below.refl _ _).drew, rfl, rfl, fun _ _ => rfl, ?_, fun _ _ _ => rfl⟩
    intro i hi h
    rw [getD_listed] at h
    simp [hi] at h
end

/-- A fact of a value that stays true in every later world. -/
abbrev Fact := { p : World → Value → Prop // ∀ w w' v, Below w.heap.size w w' → p w v → p w' v }
def Fact.any : Fact := ⟨fun _ _ => True, fun _ _ _ _ _ => trivial⟩
/-- It is this value. -/
def Fact.is (v0 : Value) : Fact := ⟨fun _ v => v = v0, fun _ _ _ _ h => h⟩
/-- It is a slice of these integers. -/
def Fact.sl (k : IntKind) (n : Nat) (zs : List Int) : Fact :=
  ⟨fun w v => ∃ a c, v = .slice a n c ∧ Sl k w a n zs ∧ n ≤ c ∧ c ≤ 9223372036854775807, fun _ _ _ hb ⟨a, c, h1, h2, h3⟩ => ⟨a, c, h1, h2.below hb, h3⟩⟩

/-- What an operation owes: its fact, or undef where its guard passes it over. -/
def OwesT (P : Program) (Q : Exit → Act → World → Prop) (L : List Fact) (T : List Nat) (a0 : Act) (w0 : World) (i : Nat) (o : Oper) : Prop :=
  ∀ a w, Below w0.heap.size w0 w → (∀ s, T.contains s = false → a.tmps.getD s undef = a0.tmps.getD s undef) →
    (∀ j, (o.after.toList.any fun e => e.on == j && Region.binds .any e) = true → (L.getD j Fact.any).1 w (a.tmps.getD (T.getD j 0) undef)) →
    ((∀ g, o.guard = some g → a.tmps.getD (T.getD g.1 0) undef = .bool g.2) ∧ o.wp P a w (fun a' w' => Below w.heap.size w w' ∧ ∃ v, a' = a.put o.dst v ∧ (L.getD i Fact.any).1 w' v) Q) ∨
    ((∃ g, o.guard = some g ∧ a.tmps.getD (T.getD g.1 0) undef ≠ .bool g.2) ∧ (L.getD i Fact.any).1 w undef)

/-- What the operations owe, one behind the other. -/
def OwesFrom (P : Program) (Q : Exit → Act → World → Prop) (L : List Fact) (T : List Nat) (a0 : Act) (w0 : World) : Nat → List Oper → Prop
  | _, [] => True
  | i, o :: l => OwesT P Q L T a0 w0 i o ∧ OwesFrom P Q L T a0 w0 (i + 1) l

theorem OwesFrom.nil {P : Program} {Q : Exit → Act → World → Prop} {L : List Fact} {T : List Nat} {a0 : Act} {w0 : World} (i : Nat) : OwesFrom P Q L T a0 w0 i [] := trivial
theorem OwesFrom.cons {P : Program} {Q : Exit → Act → World → Prop} {L : List Fact} {T : List Nat} {a0 : Act} {w0 : World} {i : Nat} {o : Oper} {l : List Oper} (h : OwesT P Q L T a0 w0 i o) (k : OwesFrom P Q L T a0 w0 (i + 1) l) : OwesFrom P Q L T a0 w0 i (o :: l) := ⟨h, k⟩

theorem OwesFrom.at {P : Program} {Q : Exit → Act → World → Prop} {L : List Fact} {T : List Nat} {a0 : Act} {w0 : World} {k : Nat} {l : List Oper} (h : OwesFrom P Q L T a0 w0 k l) : ∀ i o, l[i]? = some o → OwesT P Q L T a0 w0 (k + i) o := by
  induction l generalizing k with
  | nil => intro i o h'; simp at h'
  | cons o l ih =>
    intro i o' ho
    cases i with
    | zero => simp at ho; subst ho; exact h.1
    | succ i =>
      simp at ho
      have := ih h.2 i o' ho
      rwa [show k + 1 + i = k + (i + 1) by omega] at this

theorem table_at {ops : List Oper} {T : List Nat} (hT : ops.map (fun o => o.dst.getD 0) = T) (i : Nat) (hi : i < ops.length) : dstOf ops i = T.getD i 0 := by
  subst hT
  simp [dstOf, List.getD_eq_getElem?_getD, hi]

theorem table_apart {ops : List Oper} {T : List Nat} (hT : ops.map (fun o => o.dst.getD 0) = T) (s : Nat) (h : T.contains s = false) : apart ops s = true := by
  subst hT
  unfold apart
  rw [List.all_eq_true]
  intro o ho
  cases hd : o.dst with
  | none => simp
  | some d =>
    simp only [List.contains_eq_mem, decide_eq_false_iff_not, List.mem_map, not_exists, not_and] at h
    have := h o ho
    rw [hd] at this
    simpa using this

/-- The slots that are written only behind operation i. -/
def laterOf (ops : List Oper) (i : Nat) : List Nat := (List.range ops.length).filterMap fun j => if waits ops j i = true then some (dstOf ops j) else none
/-- What an operation owes, with slots that are not yet written. -/
def OwesY (P : Program) (Q : Exit → Act → World → Prop) (L : List Fact) (T Y : List Nat) (a0 : Act) (w0 : World) (i : Nat) (o : Oper) : Prop :=
  ∀ a w, Below w0.heap.size w0 w → (∀ s, T.contains s = false → a.tmps.getD s undef = a0.tmps.getD s undef) →
    (∀ j, (o.after.toList.any fun e => e.on == j && Region.binds .any e) = true → (L.getD j Fact.any).1 w (a.tmps.getD (T.getD j 0) undef)) → (∀ s, Y.contains s = true → a.tmps.getD s undef = a0.tmps.getD s undef) →
    ((∀ g, o.guard = some g → a.tmps.getD (T.getD g.1 0) undef = .bool g.2) ∧ o.wp P a w (fun a' w' => Below w.heap.size w w' ∧ ∃ v, a' = a.put o.dst v ∧ (L.getD i Fact.any).1 w' v) Q) ∨
    ((∃ g, o.guard = some g ∧ a.tmps.getD (T.getD g.1 0) undef ≠ .bool g.2) ∧ (L.getD i Fact.any).1 w undef)
theorem OwesT.y {P : Program} {Q : Exit → Act → World → Prop} {L : List Fact} {T Y : List Nat} {a0 : Act} {w0 : World} {i : Nat} {o : Oper} (h : OwesT P Q L T a0 w0 i o) : OwesY P Q L T Y a0 w0 i o := fun a w h1 h2 h3 _ => h a w h1 h2 h3
/-- A move of a slot that is not yet written. -/
theorem owesY_move {P : Program} {Q : Exit → Act → World → Prop} {L : List Fact} {T Y : List Nat} {a0 : Act} {w0 : World} {i : Nat} {o : Oper} (s : Nat) (v : Value) (ho : o.op = .move (.tmp s)) (hg : o.guard = none) (hs : Y.contains s = true) (hv : a0.tmps.getD s undef = v)
    (hL : (L.getD i Fact.any) = ⟨fun _ x => x = v, fun _ _ _ _ h => h⟩) : OwesY P Q L T Y a0 w0 i o := by
  intro a w h1 h2 h3 h4
  refine .inl ⟨fun g hgd => by rw [hg] at hgd; simp at hgd, ?_⟩
  have e : a.tmps.getD s undef = v := (h4 s hs).trans hv
  unfold Oper.wp execOp
  rw [ho]
  refine ⟨Below.refl _ _, _, rfl, ?_⟩
  rw [hL]
  exact e
def OwesFromY (P : Program) (Q : Exit → Act → World → Prop) (L : List Fact) (T : List Nat) (ops : List Oper) (a0 : Act) (w0 : World) : Nat → List Oper → Prop
  | _, [] => True
  | i, o :: l => OwesY P Q L T (laterOf ops i) a0 w0 i o ∧ OwesFromY P Q L T ops a0 w0 (i + 1) l
theorem OwesFromY.nil {P : Program} {Q : Exit → Act → World → Prop} {L : List Fact} {T : List Nat} {ops : List Oper} {a0 : Act} {w0 : World} (i : Nat) : OwesFromY P Q L T ops a0 w0 i [] := trivial
theorem OwesFromY.cons {P : Program} {Q : Exit → Act → World → Prop} {L : List Fact} {T : List Nat} {ops : List Oper} {a0 : Act} {w0 : World} {i : Nat} {o : Oper} {l : List Oper} (h : OwesY P Q L T (laterOf ops i) a0 w0 i o) (k : OwesFromY P Q L T ops a0 w0 (i + 1) l) : OwesFromY P Q L T ops a0 w0 i (o :: l) := ⟨h, k⟩
theorem OwesFromY.at {P : Program} {Q : Exit → Act → World → Prop} {L : List Fact} {T : List Nat} {ops : List Oper} {a0 : Act} {w0 : World} {k : Nat} {l : List Oper} (h : OwesFromY P Q L T ops a0 w0 k l) : ∀ i o, l[i]? = some o → OwesY P Q L T (laterOf ops (k + i)) a0 w0 (k + i) o := by
  induction l generalizing k with
  | nil => intro i o h'; simp at h'
  | cons o l ih =>
    intro i o' ho
    cases i with
    | zero => simp at ho; subst ho; exact h.1
    | succ i =>
      simp at ho
      have := ih h.2 i o' ho
      rwa [show k + 1 + i = k + (i + 1) by omega] at this

theorem region_owes_all {P : Program} {ops : List Oper} {Q : Exit → Act → World → Prop} {a0 : Act} {w0 : World} {id : Nat} (L : List Fact) (T : List Nat) (hm : P.follows .mixedOrders = true) (hs : shapely a0.tmps.size ops 0 [] = true)
    (hT : ops.map (fun o => o.dst.getD 0) = T) (owes : ∀ i o, ops[i]? = some o → OwesY P Q L T (laterOf ops i) a0 w0 i o)
    (fin : ∀ a w, Below w0.heap.size w0 w → a.tmps.size = a0.tmps.size → a.defers = a0.defers → (∀ s, T.contains s = false → a.tmps.getD s undef = a0.tmps.getD s undef) →
      (∀ i, i < T.length → (L.getD i Fact.any).1 w (a.tmps.getD (T.getD i 0) undef)) → Q .normal a w) : (Code.region id ops.toArray true).wp P Q a0 w0 := by
  refine region_facts (F := fun i => (L.getD i Fact.any).1) hm hs (fun i w w' v hb h => (L.getD i Fact.any).2 w w' v hb h) ?_ ?_
  · intro i o ho a w hb hold hdeps hyet
    have hown := owes i o ho
    have hlen : i < ops.length := (List.getElem?_eq_some_iff.1 ho).1
    obtain ⟨d, k1, k2, _, k4, _, k6⟩ := shapely_spec ops 0 [] hs i o ho
    have hw := hown a w hb (fun s h => hold s (table_apart hT s h)) (fun j hj => by
      obtain ⟨e, he, hej⟩ := List.any_eq_true.1 hj
      have he : e ∈ o.after := by simpa using he
      simp only [Bool.and_eq_true, beq_iff_eq] at hej
      have := hdeps e he hej.2
      have hlt := k4 e he hej.2
      rw [hej.1, table_at hT j (by omega)] at this
      exact this) (fun s hs' => by
      simp only [laterOf, List.contains_eq_mem, decide_eq_true_eq, List.mem_filterMap, List.mem_range] at hs'
      obtain ⟨j, hj, hjs⟩ := hs'
      by_cases hwj : waits ops j i = true
      · rw [if_pos hwj] at hjs
        simp at hjs
        rw [← hjs]
        exact hyet j hj hwj
      · rw [if_neg hwj] at hjs
        simp at hjs)
    have hslot : ∀ g : Nat, g < ops.length → yielded ops.toArray a.tmps g = (match a.tmps.getD (T.getD g 0) undef with | .bool b => some b | _ => none) := by
      intro g hg
      obtain ⟨d', l1, _⟩ := shapely_spec ops 0 [] hs g ops[g] (List.getElem?_eq_getElem hg)
      have hd' : T.getD g 0 = d' := by rw [← table_at hT g hg]; simp [dstOf, hg, l1]
      rw [hd', Array.getD_eq_getD_getElem?]
      unfold yielded
      simp only [List.getElem?_toArray, List.getElem?_eq_getElem hg, Option.bind_some, l1]
      cases h : a.tmps[d']? with
      | none => rfl
      | some x => cases x <;> rfl
    unfold wpOp
    simp only [List.getElem?_toArray, ho]
    rcases hw with ⟨hg, hw⟩ | ⟨⟨g, hgd, hne⟩, hu⟩
    · rw [if_pos]
      · exact .inl hw
      · unfold Region.wanted
        cases hgd : o.guard with
        | none => rfl
        | some g =>
          have hv := hg _ hgd
          have hy := hslot g.1 (by have := k6 g hgd; omega)
          rw [hv] at hy
          show (yielded ops.toArray a.tmps g.1 == some g.2) = true
          rw [hy]
          simp
    · rw [if_neg]
      · exact ⟨Below.refl _ _, undef, rfl, hu⟩
      · unfold Region.wanted
        rw [hgd]
        have hy := hslot g.1 (by have := k6 g hgd; omega)
        show ¬ (yielded ops.toArray a.tmps g.1 == some g.2) = true
        rw [hy]
        intro hh
        apply hne
        generalize a.tmps.getD (T.getD g.1 0) undef = x at hh ⊢
        cases x <;> simp_all
  · intro a w hf
    exact fin a w hf.below hf.size hf.defers (fun s h => hf.old s (table_apart hT s h)) (fun i hi => by
      have hi' : i < ops.length := by rw [← hT] at hi; simpa using hi
      have := hf.fact i hi' trivial
      rwa [table_at hT i hi'] at this)

/-- A region that draws its order: the table of its slots, the list of its facts, and each operation's due. -/
theorem region_owes {P : Program} {ops : List Oper} {Q : Exit → Act → World → Prop} {a0 : Act} {w0 : World} {id : Nat} (L : List Fact) (T : List Nat) (hm : P.follows .mixedOrders = true) (hs : shapely a0.tmps.size ops 0 [] = true)
    (hT : ops.map (fun o => o.dst.getD 0) = T) (owes : OwesFrom P Q L T a0 w0 0 ops)
    (fin : ∀ a w, Below w0.heap.size w0 w → a.tmps.size = a0.tmps.size → a.defers = a0.defers → (∀ s, T.contains s = false → a.tmps.getD s undef = a0.tmps.getD s undef) →
      (∀ i, i < T.length → (L.getD i Fact.any).1 w (a.tmps.getD (T.getD i 0) undef)) → Q .normal a w) : (Code.region id ops.toArray true).wp P Q a0 w0 :=
  region_owes_all L T hm hs hT (fun i o ho => by have := owes.at i o ho; rw [Nat.zero_add] at this; exact this.y) fin
/-- The same where a slot is read and, behind that, written. -/
theorem region_owesY {P : Program} {ops : List Oper} {Q : Exit → Act → World → Prop} {a0 : Act} {w0 : World} {id : Nat} (L : List Fact) (T : List Nat) (hm : P.follows .mixedOrders = true) (hs : shapely a0.tmps.size ops 0 [] = true)
    (hT : ops.map (fun o => o.dst.getD 0) = T) (owes : OwesFromY P Q L T ops a0 w0 0 ops)
    (fin : ∀ a w, Below w0.heap.size w0 w → a.tmps.size = a0.tmps.size → a.defers = a0.defers → (∀ s, T.contains s = false → a.tmps.getD s undef = a0.tmps.getD s undef) →
      (∀ i, i < T.length → (L.getD i Fact.any).1 w (a.tmps.getD (T.getD i 0) undef)) → Q .normal a w) : (Code.region id ops.toArray true).wp P Q a0 w0 :=
  region_owes_all L T hm hs hT (fun i o ho => by have := owes.at i o ho; rw [Nat.zero_add] at this; exact this) fin

section
variable {P : Program} {Q : Exit → Act → World → Prop} {L : List Fact} {T : List Nat} {a0 : Act} {w0 : World} {i : Nat} {o : Oper}

/-- What an operation may lean on: the world is a later one; a slot that no operation writes; the facts of those that it waits for. -/
structure Leans (L : List Fact) (T : List Nat) (a0 : Act) (w0 : World) (o : Oper) (a : Act) (w : World) : Prop where
  below : Below w0.heap.size w0 w
  old : ∀ s, T.contains s = false → a.tmps.getD s undef = a0.tmps.getD s undef
  dep : ∀ j, (o.after.toList.any fun e => e.on == j && Region.binds .any e) = true → (L.getD j Fact.any).1 w (a.tmps.getD (T.getD j 0) undef)

/-- Its guard wants it. -/
def Wants (T : List Nat) (o : Oper) (a : Act) : Prop := ∀ g, o.guard = some g → a.tmps.getD (T.getD g.1 0) undef = .bool g.2

theorem Leans.wants {a : Act} {w : World} (h : Leans L T a0 w0 o a w) (hg : o.guard.all (fun g => (o.after.toList.any fun e => e.on == g.1 && Region.binds .any e)) = true) (hb : ∀ g, o.guard = some g → L.getD g.1 Fact.any = Fact.is (.bool g.2)) : Wants T o a := by
  intro g hgd
  rw [hgd] at hg
  have := h.dep g.1 hg
  rw [hb g hgd] at this
  exact this

theorem owes_value (h : ∀ a w, Leans L T a0 w0 o a w → Wants T o a ∧ ∃ v, (execOp a.eval o).run P w = .ok (.value v) w ∧ (L.getD i Fact.any).1 w v) : OwesT P Q L T a0 w0 i o := by
  intro a w h1 h2 h3
  obtain ⟨hg, v, hr, hf⟩ := h a w ⟨h1, h2, h3⟩
  refine .inl ⟨hg, ?_⟩
  unfold Oper.wp
  rw [hr]
  exact ⟨Below.refl _ _, v, rfl, hf⟩

theorem owes_move (x : Operand) (ho : o.op = .move x ∨ o.op = .assign x) (h : ∀ a w, Leans L T a0 w0 o a w → Wants T o a ∧ (L.getD i Fact.any).1 w (a.eval x)) : OwesT P Q L T a0 w0 i o := by
  refine owes_value fun a w hl => ?_
  obtain ⟨hg, hf⟩ := h a w hl
  refine ⟨hg, a.eval x, ?_, hf⟩
  unfold execOp
  rcases ho with ho | ho <;> rw [ho] <;> rfl

theorem owes_pick (c x y : Operand) (ho : o.op = .pick c x y) (h : ∀ a w, Leans L T a0 w0 o a w → Wants T o a ∧ ∃ b, a.eval c = .bool b ∧ (L.getD i Fact.any).1 w (if b = true then a.eval x else a.eval y)) : OwesT P Q L T a0 w0 i o := by
  refine owes_value fun a w hl => ?_
  obtain ⟨hg, b, hc, hf⟩ := h a w hl
  refine ⟨hg, _, ?_, hf⟩
  unfold execOp
  rw [ho]
  simp [hc, asBool]

theorem owes_convert (s d : TypeId) (x : Operand) (ho : o.op = .convert s d x) (h : ∀ a w, Leans L T a0 w0 o a w → Wants T o a ∧ ∃ v, (convert s d (a.eval x)).run P w = .ok v w ∧ (L.getD i Fact.any).1 w v) : OwesT P Q L T a0 w0 i o := by
  refine owes_value fun a w hl => ?_
  obtain ⟨hg, v, hr, hf⟩ := h a w hl
  refine ⟨hg, v, ?_, hf⟩
  unfold execOp
  rw [ho]
  simp [hr, Result.andThen]

theorem run_enter {f : FuncId} {fn : Func} (hf : P.funcs[f]? = some fn) (hname : (fn.name == "runtime.NumGoroutine") = false) (hb : fn.body.isNone = false) (args : Array Value) (w : World) : (callFunc f args).run P w = .ok (.enter f args) w := by
  have h1 : ¬ fn.name = "runtime.NumGoroutine" := by simpa using hname
  have h2 : ¬ fn.body = none := by
    intro h
    rw [h] at hb
    simp at hb
  simp [callFunc, hf]
  rw [if_neg h1, if_neg h2]

theorem owes_call (f : FuncId) {fn : Func} (hfn : P.funcs[f]? = some fn) (hname : (fn.name == "runtime.NumGoroutine") = false) (hbody : fn.body.isNone = false) (xs : List Operand) (ts : Array TypeId) (ho : o.op = .call { callee := .value (.func f), args := xs.toArray, argTypes := ts })
    (h : ∀ a w, Leans L T a0 w0 o a w → Wants T o a ∧ Calls P f (xs.map a.eval).toArray w fun e w' => ∃ v, e = .returned v ∧ Below w.heap.size w w' ∧ (L.getD i Fact.any).1 w' v) : OwesT P Q L T a0 w0 i o := by
  intro a w h1 h2 h3
  obtain ⟨hg, hc⟩ := h a w ⟨h1, h2, h3⟩
  refine .inl ⟨hg, ?_⟩
  unfold Oper.wp
  have hr : (execOp a.eval o).run P w = (.ok (.enter f (xs.map a.eval).toArray) w) := by
    unfold execOp
    rw [ho]
    simp [resolve, invoke, Act.eval, Deferred.ofValue, run_enter hfn hname hbody]
  rw [hr]
  refine hc.mono ?_
  rintro e w' ⟨v, rfl, hb, hf⟩
  exact ⟨hb, v, rfl, hf⟩

theorem wants_free {a : Act} (h : o.guard = none) : Wants T o a := fun g hg => by rw [h] at hg; simp at hg
theorem Leans.wants1 {a : Act} {w : World} (h : Leans L T a0 w0 o a w) (j : Nat) (b : Bool) (hg : o.guard = some (j, b)) (hd : (o.after.toList.any fun e => e.on == j && Region.binds .any e) = true) (hL : L.getD j Fact.any = Fact.is (.bool b)) : Wants T o a := by
  intro g hgd
  rw [hg] at hgd
  simp at hgd
  subst hgd
  have := h.dep j hd
  rw [hL] at this
  exact this

/-- Two values that are one. -/
theorem owes_eql (t t2 : TypeId) (x y : Operand) (ho : o.op = .binOp .eql t x y t2) (hL : L.getD i Fact.any = Fact.is (.bool true))
    (h : ∀ a w, Leans L T a0 w0 o a w → Wants T o a ∧ ∃ v, a.eval x = v ∧ a.eval y = v ∧ ∀ w, (do eqGuard .eql t x y v v; binOp .eql t v v : Sem Value).run P w = .ok (.bool true) w) : OwesT P Q L T a0 w0 i o := by
  refine owes_value fun a w hl => ?_
  obtain ⟨hg, v, hx, hy, hr⟩ := h a w hl
  refine ⟨hg, .bool true, ?_, by rw [hL]; rfl⟩
  unfold execOp
  rw [ho]
  simp only [hx, hy]
  have := hr w
  simp only [Sem.run_bind, this, Result.andThen]
  rfl

/-- The text of a slice that was there before. -/
theorem owes_text (s d e : TypeId) (x : Nat) (j : Nat) (ad : Option Addr) (n c : Nat) (zs : List Int) (ho : o.op = .convert s d (.tmp x)) (hx : T.getD j 0 = x) (hd : (o.after.toList.any fun e => e.on == j && Region.binds .any e) = true)
    (hj : L.getD j Fact.any = Fact.is (.slice ad n c)) (hL : L.getD i Fact.any = Fact.is (.string (strOfNums zs))) (hS : Sl .u8 w0 ad n zs) (u1 : P.underlying s = some (.slice e)) (u2 : P.underlying e = some (.int .u8)) (u3 : P.underlying d = some .string)
    (hw : ∀ a w, Leans L T a0 w0 o a w → Wants T o a) : OwesT P Q L T a0 w0 i o := by
  refine owes_convert s d (.tmp x) ho fun a w h => ⟨hw a w h, _, ?_, by rw [hL]; rfl⟩
  have hv := h.dep j hd
  rw [hj, hx] at hv
  have hv : a.tmps.getD x undef = .slice ad n c := hv
  show (convert s d (a.tmps.getD x undef)).run P w = _
  rw [hv]
  exact (hS.below h.below).text s d e u1 u2 u3

/-- The text of a slice that an operation of the region has made. -/
theorem owes_text_new (s d e : TypeId) (x : Nat) (j : Nat) (n : Nat) (zs : List Int) (ho : o.op = .convert s d (.tmp x)) (hx : T.getD j 0 = x) (hd : (o.after.toList.any fun e => e.on == j && Region.binds .any e) = true)
    (hj : L.getD j Fact.any = Fact.sl .u8 n zs) (hL : L.getD i Fact.any = Fact.is (.string (strOfNums zs))) (u1 : P.underlying s = some (.slice e)) (u2 : P.underlying e = some (.int .u8)) (u3 : P.underlying d = some .string)
    (hw : ∀ a w, Leans L T a0 w0 o a w → Wants T o a) : OwesT P Q L T a0 w0 i o := by
  refine owes_convert s d (.tmp x) ho fun a w h => ⟨hw a w h, _, ?_, by rw [hL]; rfl⟩
  have hv := h.dep j hd
  rw [hj, hx] at hv
  obtain ⟨ad, c, hv, hS, _⟩ := hv
  show (convert s d (a.tmps.getD x undef)).run P w = _
  rw [hv]
  exact hS.text s d e u1 u2 u3
end

end Go.Proofs.Ytlackjldopeigaa

/-
  More dues of the operations of a region that draws its order (Facts): values that the walk's own rules tell, slices made, slices put behind one another; the frame behind, slot by slot.
-/
namespace Go.Proofs.Ytlackjldopeigaa
open Go.RowKit
set_option linter.unusedVariables false

/-- A slice of these integers that is not nil. -/
def Fact.has (k : IntKind) (n : Nat) (zs : List Int) : Fact :=
  ⟨fun w v => ∃ a c, v = .slice (some a) n c ∧ Sl k w (some a) n zs ∧ n ≤ c ∧ c ≤ 9223372036854775807, fun _ _ _ hb ⟨a, c, h1, h2, h3⟩ => ⟨a, c, h1, h2.below hb, h3⟩⟩
/-- A slice of these integers with no room behind. -/
def Fact.full (k : IntKind) (n : Nat) (zs : List Int) : Fact :=
  ⟨fun w v => ∃ b, v = .slice (some ⟨b, 0, none⟩) n n ∧ Sl k w (some ⟨b, 0, none⟩) n zs, fun _ _ _ hb ⟨b, h1, h2⟩ => ⟨b, h1, h2.below hb⟩⟩

theorem Sl.cells {k : IntKind} {w : World} {ad : Addr} {n : Nat} {zs : List Int} (h : Sl k w (some ad) n zs) : ∀ j u, (zs.map (Value.int k))[j]? = some u → w.cell? (ad.add j) = some u := by
  intro j u hj
  have hjl : j < zs.length := by
    have := (List.getElem?_eq_some_iff.1 hj).1
    simpa using this
  rcases h.2.2 with h0 | ⟨b, off, ha, hc⟩
  · subst h0; simp at hjl
  · simp at ha
    subst ha
    rw [Addr.add_flat, hc j hjl]
    simp [hjl] at hj
    rw [← hj]
    simp [List.getD_eq_getElem?_getD, hjl]

section
variable {P : Program} {L : List Fact} {T : List Nat} {Q : Exit → Act → World → Prop} {a0 : Act} {w0 : World} {i : Nat} {o : Oper}

/-- An operation that makes memory. -/
theorem owes_make (h : ∀ a w, Leans L T a0 w0 o a w → Wants T o a ∧ ∃ v w', (execOp a.eval o).run P w = .ok (.value v) w' ∧ Below w.heap.size w w' ∧ (L.getD i Fact.any).1 w' v) : OwesT P Q L T a0 w0 i o := by
  intro a w h1 h2 h3
  obtain ⟨hg, v, w', hr, hb, hf⟩ := h a w ⟨h1, h2, h3⟩
  refine .inl ⟨hg, ?_⟩
  unfold Oper.wp
  rw [hr]
  exact ⟨hb, v, rfl, hf⟩

/-- One slice put behind another one that has no room. -/
theorem owes_append (t e : TypeId) (x y jx jy n m : Nat) (k : IntKind) (inf : TypeInfo) (z : Value) (bytes : Nat) (xs ys : List Int) (ho : o.op = .call { callee := .builtin .append, args := #[.tmp x, .tmp y], argTypes := #[t, t] })
    (hx : T.getD jx 0 = x) (hdx : (o.after.toList.any fun e => e.on == jx && Region.binds .any e) = true) (hfx : L.getD jx Fact.any = Fact.full k n xs)
    (hy : T.getD jy 0 = y) (hdy : (o.after.toList.any fun e => e.on == jy && Region.binds .any e) = true) (hfy : L.getD jy Fact.any = Fact.has k m ys)
    (hL : L.getD i Fact.any = Fact.has k (n + m) (xs ++ ys))
    (ht : P.underlying t = some (.slice e)) (hi : P.info? e = some inf) (hz : inf.zero = some z) (hsize : inf.size = 1) (hby : inf.bytes = bytes) (hzs : z.cells.size = 1)
    (h63 : n + m ≤ maxLen) (hbytes : (n + m) * bytes ≤ 140737488355328) (hmax : maxLen ≤ 9223372036854775807) (hw : ∀ a w, Leans L T a0 w0 o a w → Wants T o a) : OwesT P Q L T a0 w0 i o := by
  refine owes_make fun a w hl => ⟨hw a w hl, ?_⟩
  have vx := hl.dep jx hdx
  rw [hfx, hx] at vx
  obtain ⟨b, vx, sx⟩ := vx
  have vy := hl.dep jy hdy
  rw [hfy, hy] at vy
  obtain ⟨ad, c, vy, sy, hmc, _⟩ := vy
  have lx := sx.1
  have ly := sy.1
  have wf : ∀ z ∈ xs ++ ys, k.wrap z = z := fun z hz => by
    rcases List.mem_append.mp hz with hz | hz
    · exact sx.2.1 z hz
    · exact sy.2.1 z hz
  have ex : a.eval (.tmp x) = .slice (some ⟨b, 0, none⟩) n n := vx
  have ey : a.eval (.tmp y) = .slice (some ad) m c := vy
  rw [hL]
  by_cases h0 : m = 0
  · subst h0
    obtain rfl : ys = [] := List.length_eq_zero_iff.mp ly.symm
    have hrun := run_append_room_cells (P := P) w t o.type e inf ht hi b 0 n n ad 0 c [] (by simp) (fun j u hj => by simp at hj) (fun u hu => by simp at hu) (by omega) (fun j hj => by simp at hj) (fun j hj => by simp at hj)
    refine ⟨.slice (some ⟨b, 0, none⟩) n n, w, ?_, Below.refl _ _, ?_⟩
    · simp [execOp, ho, resolve, invoke, builtin, ex, ey, hrun, Result.andThen]
      rfl
    · refine ⟨⟨b, 0, none⟩, n, rfl, ?_, by omega, by omega⟩
      simpa using sx
  · obtain ⟨v', w', hrun, r1, r2⟩ := run_append_arg_grows (P := P) w t o.type e inf z 1 bytes ht hi hz hsize hby hzs (by decide) ⟨b, 0, none⟩ n n (xs.map (Value.int k)) (by simp; omega) sx.cells ad m c (ys.map (Value.int k)) (by simp; omega) sy.cells (by omega) h63 hbytes
    refine ⟨v', w', ?_, ?_, ?_⟩
    · simp [execOp, ho, resolve, invoke, builtin, ex, ey, hrun, Result.andThen]
    · exact (Below.refl _ _).grown r2 (Nat.le_refl _) (fun k hk => by simp at hk)
    · rw [← List.map_append] at r1
      obtain ⟨a', c', rfl, s', hn'⟩ := Sl.own r1 wf
      have hlen : (xs ++ ys).length = n + m := by simp; omega
      rw [hlen] at s' r1 ⊢
      obtain ⟨hc1, hc2⟩ := own_cap r1
      cases a' with
      | none =>
        have := hn' rfl
        omega
      | some a' => exact ⟨a', c', rfl, s', hc1, hc2⟩
end

end Go.Proofs.Ytlackjldopeigaa

/-
  The frame behind a region that draws its order (Facts), slot by slot, so that the walk goes on behind it.
-/
namespace Go.Proofs.Ytlackjldopeigaa
open Go.RowKit

/-- Values laid into slots, one after the other. -/
def puts (a : Act) : List (Nat × Value) → Act
  | [] => a
  | p :: l => puts (a.put (some p.1) p.2) l
def Holds (q : Act) : List (Nat × Value) → Prop
  | [] => True
  | p :: l => q.tmps.getD p.1 undef = p.2 ∧ Holds q l

theorem puts_size : ∀ (l : List (Nat × Value)) (a : Act), (puts a l).tmps.size = a.tmps.size
  | [], a => rfl
  | p :: l, a => by rw [puts, puts_size l, size_put]
theorem puts_defers : ∀ (l : List (Nat × Value)) (a : Act), (puts a l).defers = a.defers
  | [], a => rfl
  | p :: l, a => by rw [puts, puts_defers l, defers_put]
theorem puts_at (q : Act) (s : Nat) (hs : s < q.tmps.size) : ∀ (l : List (Nat × Value)) (a : Act), a.tmps.size = q.tmps.size → Holds q l → (a.tmps.getD s undef = q.tmps.getD s undef ∨ s ∈ l.map Prod.fst) → (puts a l).tmps.getD s undef = q.tmps.getD s undef
  | [], a, _, _, h => by simpa [puts] using h
  | p :: l, a, hsz, hq, h => by
    rw [puts]
    refine puts_at q s hs l _ (by rw [size_put]; exact hsz) hq.2 ?_
    by_cases hp : p.1 = s
    · left
      rw [← hp, getD_put_same _ _ _ (by rw [hsz, hp]; exact hs)]
      exact hq.1.symm
    · rw [getD_put_ne _ _ _ _ hp]
      rcases h with h | h
      · exact .inl h
      · right
        simp only [List.map_cons, List.mem_cons] at h
        exact h.resolve_left (fun h => hp h.symm)

/-- The frame behind the region, slot by slot. -/
theorem frame_puts {q a0 : Act} (hsz : q.tmps.size = a0.tmps.size) (hdf : q.defers = a0.defers) (T : List Nat) (hold : ∀ s, T.contains s = false → q.tmps.getD s undef = a0.tmps.getD s undef) (l : List (Nat × Value)) (hq : Holds q l) (hT : l.map Prod.fst = T) :
    q = puts a0 l := by
  have ht : q.tmps = (puts a0 l).tmps := by
    apply Array.ext
    · rw [puts_size, hsz]
    · intro s h1 h2
      have := puts_at q s h1 l a0 hsz.symm hq (by
        by_cases hc : T.contains s = true
        · right; rw [hT]; simpa using hc
        · left; exact (hold s (by simpa using hc)).symm)
      simp only [Array.getD_eq_getD_getElem?, Array.getElem?_eq_getElem h1, Array.getElem?_eq_getElem h2, Option.getD_some] at this
      exact this.symm
  have hd : q.defers = (puts a0 l).defers := by rw [puts_defers, hdf]
  cases q
  cases hp : puts a0 l
  rw [hp] at ht hd
  simp only at ht hd
  rw [ht, hd]

end Go.Proofs.Ytlackjldopeigaa

/-
  Facts of callees and of comparisons, for regions that draw their order.
-/
namespace Go.Proofs.Ytlackjldopeigaa
open Go.RowKit
set_option linter.unusedVariables false

theorem is_fact {f : FuncId} {args : Array Value} {w : World} {v0 : Value} (h : Calls Try.prog f args w fun e w' => e = .returned v0 ∧ Below w.heap.size w w') :
    Calls Try.prog f args w fun e w' => ∃ v, e = .returned v ∧ Below w.heap.size w w' ∧ (Fact.is v0).1 w' v :=
  h.mono fun e w' ⟨h1, h2⟩ => ⟨_, h1, h2, rfl⟩
theorem bool_fact {f : FuncId} {args : Array Value} {w : World} {b : Bool} (h : Calls Try.prog f args w fun e w' => e = .returned (.bool b) ∧ Below w.heap.size w w') :
    Calls Try.prog f args w fun e w' => ∃ v, e = .returned v ∧ Below w.heap.size w w' ∧ (Fact.is (.bool b)).1 w' v := is_fact h
theorem int_fact {f : FuncId} {args : Array Value} {w : World} {n : Int} (h : Calls Try.prog f args w fun e w' => e = .returned (.int .i64 n) ∧ Below w.heap.size w w') :
    Calls Try.prog f args w fun e w' => ∃ v, e = .returned v ∧ Below w.heap.size w w' ∧ (Fact.is (.int .i64 n)).1 w' v := is_fact h
theorem eq_bool {x y : Operand} {b : Bool} : ∀ w, (do eqGuard .eql 4 x y (.bool b) (.bool b); binOp .eql 4 (.bool b) (.bool b) : Sem Value).run Try.prog w = .ok (.bool true) w := by
  intro w; simp [eqGuard, go_sem]
theorem eq_num {x y : Operand} {n : Int} : ∀ w, (do eqGuard .eql 3 x y (.int .i64 n) (.int .i64 n); binOp .eql 3 (.int .i64 n) (.int .i64 n) : Sem Value).run Try.prog w = .ok (.bool true) w := by
  intro w; simp [eqGuard, go_sem]
theorem eq_i64 {x y : Operand} {n : Int} : ∀ w, (do eqGuard .eql 2 x y (.int .i64 n) (.int .i64 n); binOp .eql 2 (.int .i64 n) (.int .i64 n) : Sem Value).run Try.prog w = .ok (.bool true) w := by
  intro w; simp [eqGuard, go_sem]
theorem eq_str {x y : Operand} {s : ByteArray} : ∀ w, (do eqGuard .eql 9 x y (.string s) (.string s); binOp .eql 9 (.string s) (.string s) : Sem Value).run Try.prog w = .ok (.bool true) w := by
  intro w; simp [eqGuard, go_sem]
theorem eq_int {x y : Operand} {n : Int} : ∀ w, (do eqGuard .eql 64 x y (.int .i64 n) (.int .i64 n); binOp .eql 64 (.int .i64 n) (.int .i64 n) : Sem Value).run Try.prog w = .ok (.bool true) w := by
  intro w; simp [eqGuard, go_sem]
theorem eq_acct {x y : Operand} {b c r : Int} : ∀ w, (do eqGuard .eql 53 x y (.agg #[.int .i64 b, .int .i64 c, .int .i64 r]) (.agg #[.int .i64 b, .int .i64 c, .int .i64 r]); binOp .eql 53 (.agg #[.int .i64 b, .int .i64 c, .int .i64 r]) (.agg #[.int .i64 b, .int .i64 c, .int .i64 r]) : Sem Value).run Try.prog w = .ok (.bool true) w := by
  intro w; simp [eqGuard, go_sem]

end Go.Proofs.Ytlackjldopeigaa

/-
  Regions that draw their order (Facts): operations whose guard hangs on a letter.
-/
namespace Go.Proofs.Ytlackjldopeigaa
open Go.RowKit
set_option linter.unusedVariables false

/-- It holds v, if g. -/
def Fact.when (g : Bool) (v : Value) : Fact := ⟨fun _ y => g = true → y = v, fun _ _ _ _ h => h⟩

section
variable {P : Program} {Q : Exit → Act → World → Prop} {L : List Fact} {T : List Nat} {a0 : Act} {w0 : World} {i : Nat} {o : Oper}

/-- A guarded operation that only reads. -/
theorem owes_when (j : Nat) (b c : Bool) (v : Value) (hg : o.guard = some (j, b)) (hd : (o.after.toList.any fun e => e.on == j && Region.binds .any e) = true) (hLj : L.getD j Fact.any = Fact.is (.bool c)) (hL : L.getD i Fact.any = Fact.when (c == b) v)
    (h : (c == b) = true → ∀ a w, Leans L T a0 w0 o a w → (execOp a.eval o).run P w = .ok (.value v) w) : OwesT P Q L T a0 w0 i o := by
  intro a w h1 h2 h3
  have hv := h3 j hd
  rw [hLj] at hv
  have hv : a.tmps.getD (T.getD j 0) undef = .bool c := hv
  cases hcb : (c == b) with
  | false =>
    refine .inr ⟨⟨(j, b), hg, ?_⟩, ?_⟩
    · rw [hv]
      intro hh
      injection hh with hh
      rw [hh] at hcb
      simp at hcb
    · rw [hL, hcb]
      intro hh
      exact Bool.noConfusion hh
  | true =>
    refine .inl ⟨?_, ?_⟩
    · intro g hgd
      rw [hg] at hgd
      simp at hgd
      subst hgd
      rw [hv]
      have : c = b := by simpa using hcb
      rw [this]
    · unfold Oper.wp
      rw [h hcb a w ⟨h1, h2, h3⟩]
      exact ⟨Below.refl _ _, v, rfl, by rw [hL]; intro _; rfl⟩

/-- A guarded call. -/
theorem owes_when_call (j : Nat) (b c : Bool) (v0 : Value) (hg : o.guard = some (j, b)) (hd : (o.after.toList.any fun e => e.on == j && Region.binds .any e) = true) (hLj : L.getD j Fact.any = Fact.is (.bool c)) (hL : L.getD i Fact.any = Fact.when (c == b) v0)
    (f : FuncId) {fn : Func} (hfn : P.funcs[f]? = some fn) (hname : (fn.name == "runtime.NumGoroutine") = false) (hbody : fn.body.isNone = false) (xs : List Operand) (ts : Array TypeId) (ho : o.op = .call { callee := .value (.func f), args := xs.toArray, argTypes := ts })
    (h : (c == b) = true → ∀ a w, Leans L T a0 w0 o a w → Calls P f (xs.map a.eval).toArray w fun e w' => e = .returned v0 ∧ Below w.heap.size w w') : OwesT P Q L T a0 w0 i o := by
  intro a w h1 h2 h3
  have hv := h3 j hd
  rw [hLj] at hv
  have hv : a.tmps.getD (T.getD j 0) undef = .bool c := hv
  cases hcb : (c == b) with
  | false =>
    refine .inr ⟨⟨(j, b), hg, ?_⟩, ?_⟩
    · rw [hv]
      intro hh
      injection hh with hh
      rw [hh] at hcb
      simp at hcb
    · rw [hL, hcb]
      intro hh
      exact Bool.noConfusion hh
  | true =>
    have hc := h hcb a w ⟨h1, h2, h3⟩
    refine .inl ⟨?_, ?_⟩
    · intro g hgd
      rw [hg] at hgd
      simp at hgd
      subst hgd
      rw [hv]
      have : c = b := by simpa using hcb
      rw [this]
    · unfold Oper.wp
      have hr : (execOp a.eval o).run P w = (.ok (.enter f (xs.map a.eval).toArray) w) := by
        unfold execOp
        rw [ho]
        simp [resolve, invoke, Act.eval, Deferred.ofValue, run_enter hfn hname hbody]
      rw [hr]
      refine hc.mono ?_
      rintro e w' ⟨rfl, hb⟩
      exact ⟨hb, v0, rfl, by rw [hL]; intro _; rfl⟩

/-- c || y. -/
theorem owes_or (c y jc jy : Nat) (C Y : Bool) (ho : o.op = .pick (.tmp c) (.const (.bool true)) (.tmp y)) (hg : o.guard = none)
    (hc : T.getD jc 0 = c) (hdc : (o.after.toList.any fun e => e.on == jc && Region.binds .any e) = true) (hLc : L.getD jc Fact.any = Fact.is (.bool C))
    (hy : T.getD jy 0 = y) (hdy : (o.after.toList.any fun e => e.on == jy && Region.binds .any e) = true) (hLy : L.getD jy Fact.any = Fact.when (C == false) (.bool Y)) (hL : L.getD i Fact.any = Fact.is (.bool (C || Y))) : OwesT P Q L T a0 w0 i o := by
  refine owes_pick (.tmp c) (.const (.bool true)) (.tmp y) ho fun a w lh => ⟨wants_free hg, C, ?_, ?_⟩
  · have := lh.dep jc hdc
    rw [hLc, hc] at this
    exact this
  · rw [hL]
    cases C with
    | true => rfl
    | false =>
      have := lh.dep jy hdy
      rw [hLy, hy] at this
      have : a.tmps.getD y undef = .bool Y := this rfl
      exact this
/-- c && y. -/
theorem owes_and (c y jc jy : Nat) (C Y : Bool) (ho : o.op = .pick (.tmp c) (.tmp y) (.const (.bool false))) (hg : o.guard = none)
    (hc : T.getD jc 0 = c) (hdc : (o.after.toList.any fun e => e.on == jc && Region.binds .any e) = true) (hLc : L.getD jc Fact.any = Fact.is (.bool C))
    (hy : T.getD jy 0 = y) (hdy : (o.after.toList.any fun e => e.on == jy && Region.binds .any e) = true) (hLy : L.getD jy Fact.any = Fact.when (C == true) (.bool Y)) (hL : L.getD i Fact.any = Fact.is (.bool (C && Y))) : OwesT P Q L T a0 w0 i o := by
  refine owes_pick (.tmp c) (.tmp y) (.const (.bool false)) ho fun a w lh => ⟨wants_free hg, C, ?_, ?_⟩
  · have := lh.dep jc hdc
    rw [hLc, hc] at this
    exact this
  · rw [hL]
    cases C with
    | false => rfl
    | true =>
      have := lh.dep jy hdy
      rw [hLy, hy] at this
      have : a.tmps.getD y undef = .bool Y := this rfl
      exact this
end

end Go.Proofs.Ytlackjldopeigaa

/-
  A region that draws its order (Facts) whose last operation, a store, stands behind all others.
-/
namespace Go.Proofs.Ytlackjldopeigaa
open Go.RowKit
set_option linter.unusedVariables false

/-- Each operation is waited for by one that stands behind it, or by the last one; the last one waits for these alone, has no guard and no slot. -/
def sinks (pre : List Oper) (st : Oper) : Bool :=
  st.dst.isNone && st.guard.isNone && st.after.all (fun e => !Region.binds .any e || decide (e.on < pre.length)) &&
  (List.range pre.length).all fun i => (st.after.toList.any fun e => e.on == i && Region.binds .any e) || (List.range pre.length).any fun j => decide (i < j) && waits pre j i

/-- The frame is a0 but for the slots of the operations; the slot of each that has come up holds its fact. -/
structure FitsE (ops : List Oper) (F : Nat → World → Value → Prop) (a0 : Act) (w0 : World) (done : Nat → Prop) (a : Act) (w : World) : Prop where
  below : Below w0.heap.size w0 w
  size : a.tmps.size = a0.tmps.size
  defers : a.defers = a0.defers
  old : ∀ s, apart ops s = true → a.tmps.getD s undef = a0.tmps.getD s undef
  fact : ∀ i, i < ops.length → done i → F i w (a.tmps.getD (dstOf ops i) undef)

section
variable {P : Program} {pre : List Oper} {st : Oper} {Q : Exit → Act → World → Prop} {F : Nat → World → Value → Prop} {a0 : Act} {w0 : World}

theorem end_at {i : Nat} (hi : i < pre.length) : (pre ++ [st])[i]? = pre[i]? := List.getElem?_append_left hi
theorem end_last : (pre ++ [st])[pre.length]? = some st := by simp

/-- Where the last one may come up, all others have. -/
theorem end_all (hk : sinks pre st = true) (listed : Array Bool) (hcl : Closed (pre ++ [st]) listed) (hd : ∀ e ∈ st.after, Region.binds .any e = true → listed.getD e.on false = true) : ∀ i, i < pre.length → listed.getD i false = true := by
  unfold sinks at hk
  simp only [Bool.and_eq_true] at hk
  obtain ⟨_, hk⟩ := hk
  rw [List.all_eq_true] at hk
  have key : ∀ d i, i + d = pre.length → i < pre.length → listed.getD i false = true := by
    intro d
    induction d using Nat.strongRecOn with
    | _ d ih =>
      intro i hid hi
      have h := hk i (List.mem_range.2 hi)
      rw [Bool.or_eq_true] at h
      rcases h with h | h
      · obtain ⟨e, he, hej⟩ := List.any_eq_true.1 h
        simp only [Bool.and_eq_true, beq_iff_eq] at hej
        rw [← hej.1]
        exact hd e (by simpa using he) hej.2
      · obtain ⟨j, hj, hji⟩ := List.any_eq_true.1 h
        rw [List.mem_range] at hj
        simp only [Bool.and_eq_true, decide_eq_true_eq] at hji
        have hl := ih (pre.length - j) (by omega) j (by omega) hj
        have hw := hji.2
        unfold waits at hw
        rw [List.getElem?_eq_getElem hj] at hw
        simp only [Option.map_some, Option.getD_some, List.any_eq_true, Bool.and_eq_true, beq_iff_eq] at hw
        obtain ⟨e, he, hei, hb⟩ := hw
        have := hcl j pre[j] (by rw [end_at hj]; exact List.getElem?_eq_getElem hj) hl e (by simpa using he) hb
        rw [← hei]
        exact this
  intro i hi
  exact key (pre.length - i) i (by omega) hi

theorem facts_end (hs : shapely a0.tmps.size pre 0 [] = true) (hk : sinks pre st = true) (mono : ∀ i w w' v, Below w.heap.size w w' → F i w v → F i w' v)
    (owes : ∀ i o, pre[i]? = some o → ∀ a w, Below w0.heap.size w0 w → (∀ s, apart pre s = true → a.tmps.getD s undef = a0.tmps.getD s undef) → (∀ e ∈ o.after, Region.binds .any e = true → F e.on w (a.tmps.getD (dstOf pre e.on) undef)) →
      wpOp P (pre ++ [st]).toArray Q i (fun a' w' => Below w.heap.size w w' ∧ ∃ v, a' = a.put o.dst v ∧ F i w' v) a w)
    (fin : ∀ a w, FitsE pre F a0 w0 (fun _ => True) a w → st.wp P a w (fun a' w' => Q .normal a' w') Q) :
    ∀ (fuel : Nat) (listed : Array Bool) (a : Act) (w : World), listed.size = (pre ++ [st]).length → cnt listed.toList ≤ fuel → Closed (pre ++ [st]) listed → listed.getD pre.length false = false → FitsE pre F a0 w0 (fun i => listed.getD i false = true) a w → wpAny P .any (pre ++ [st]).toArray Q fuel listed a w := by
  have hk' := hk
  unfold sinks at hk'
  simp only [Bool.and_eq_true] at hk'
  obtain ⟨⟨⟨hk1, hk2⟩, hk3⟩, _⟩ := hk'
  have hdst : st.dst = none := by simpa using hk1
  have hgd : st.guard = none := by simpa using hk2
  intro fuel
  induction fuel with
  | zero =>
    intro listed a w hl hc hcl hn hf
    have := cnt_zero listed.toList pre.length (by omega)
    rw [getD_listed] at hn
    have h1 : pre.length < listed.toList.length := by simp [hl]
    rw [List.getElem?_eq_getElem h1] at this hn
    simp at this hn
    rw [hn] at this
    simp at this
  | succ fuel ih =>
    intro listed a w hl hc hcl hn hf
    refine ⟨?_, ?_⟩
    · intro hr
      exfalso
      have hall : ∀ i, i < pre.length → listed.getD i false = true := by
        intro i
        induction i using Nat.strongRecOn with
        | _ i ih' =>
          intro hi
          cases hc' : listed.getD i true with
          | true =>
            have h1 : i < listed.size := by simp at hl; omega
            simp only [Array.getD, h1, dif_pos] at hc' ⊢
            exact hc'
          | false =>
            have hm : i ∈ Region.ready .any (pre ++ [st]).toArray listed := by
              refine mem_ready.2 ⟨by simp; omega, hc', pre[i], by rw [end_at hi]; exact List.getElem?_eq_getElem hi, ?_⟩
              intro e he hb
              obtain ⟨d, _, _, _, h4, _⟩ := shapely_spec pre 0 [] hs i pre[i] (List.getElem?_eq_getElem hi)
              have := h4 e he hb
              exact ih' e.on (by omega) (by omega)
            rw [hr] at hm
            simp at hm
      have hm : pre.length ∈ Region.ready .any (pre ++ [st]).toArray listed := by
        refine mem_ready.2 ⟨by simp, ?_, st, end_last, ?_⟩
        · have h1 : pre.length < listed.size := by simp at hl; omega
          simp only [Array.getD, h1, dif_pos] at hn ⊢
          exact hn
        · intro e he hb
          rw [Array.all_eq_true_iff_forall_mem] at hk3
          have := hk3 e he
          rw [hb] at this
          simp at this
          exact hall e.on this
      rw [hr] at hm
      simp at hm
    · intro i hi
      obtain ⟨h1, h2, o, ho, h3⟩ := mem_ready.1 hi
      have hli : listed.toList[i]? = some false := by
        rw [getD_listed] at h2
        have h4 : i < listed.toList.length := by simp [hl]; simp at h1; omega
        rw [List.getElem?_eq_getElem h4] at h2 ⊢
        simpa using h2
      have hkeep : ∀ j, listed.getD j false = true → (listed.setIfInBounds i true).getD j false = true := by
        intro j hj
        rw [getD_listed] at hj ⊢
        rw [Array.toList_setIfInBounds]
        by_cases hji : i = j
        · subst hji; rw [hli] at hj; simp at hj
        · rw [List.getElem?_set_ne hji]; exact hj
      have hback : ∀ j, j ≠ i → (listed.setIfInBounds i true).getD j false = true → listed.getD j false = true := by
        intro j hji hj
        rw [getD_listed] at hj ⊢
        rw [Array.toList_setIfInBounds, List.getElem?_set_ne (Ne.symm hji)] at hj
        exact hj
      by_cases hip : i < pre.length
      · have ho' : pre[i]? = some o := by rw [← end_at (st := st) hip]; exact ho
        obtain ⟨d, k1, k2, _, k4, k5, _⟩ := shapely_spec pre 0 [] hs i o ho'
        have hdi : dstOf pre i = d := by simp [dstOf, ho', k1]
        refine wpOp_mono ?_ (owes i o ho' a w hf.below hf.old (fun e he hb => hf.fact e.on (by have := k4 e he hb; omega) (h3 e he hb)))
        rintro a' w' ⟨hb, v, rfl, hv⟩
        rw [k1]
        refine ih _ _ w' (by simpa using hl) ?_ ?_ ?_ ?_
        · have := cnt_set listed.toList i hli
          rw [Array.toList_setIfInBounds]
          omega
        · intro j oj hoj hj e he hb
          by_cases hji : j = i
          · subst hji
            rw [ho] at hoj
            simp at hoj
            subst hoj
            exact hkeep _ (h3 e he hb)
          · exact hkeep _ (hcl j oj hoj (hback j hji hj) e he hb)
        · cases hq : (listed.setIfInBounds i true).getD pre.length false with
          | false => rfl
          | true =>
            have := hback pre.length (by omega) hq
            rw [hn] at this
            exact this.symm
        · refine ⟨hf.below.trans (hb.mono hf.below.size), by rw [size_put]; exact hf.size, by rw [defers_put]; exact hf.defers, ?_, ?_⟩
          · intro s hsl
            have hne : d ≠ s := by
              intro h
              subst h
              have := List.all_eq_true.1 hsl o (List.mem_of_getElem? ho')
              rw [k1] at this
              simp at this
            rw [getD_put_ne a d s v hne]
            exact hf.old s hsl
          · intro j hj hdone
            by_cases hji : j = i
            · subst hji
              rw [hdi, getD_put_same a d v (by rw [hf.size]; exact k2)]
              exact hv
            · have hdone' : listed.getD j false = true := hback j hji hdone
              obtain ⟨d', l1, l2, _, _, l5, _⟩ := shapely_spec pre 0 [] hs j pre[j] (List.getElem?_eq_getElem hj)
              have hdj : dstOf pre j = d' := by simp [dstOf, l1, hj]
              have hne : d ≠ d' := by
                intro h
                subst h
                rcases Nat.lt_or_gt_of_ne hji with h | h
                · exact k5 j pre[j] h (List.getElem?_eq_getElem hj) l1
                · exact l5 i o h ho' k1
              have hfj := hf.fact j hj hdone'
              rw [hdj] at hfj ⊢
              rw [getD_put_ne a d d' v hne]
              exact mono j w w' _ hb hfj
      · obtain rfl : i = pre.length := by simp at h1; omega
        have hos : o = st := by rw [end_last] at ho; simpa using ho.symm
        subst hos
        have hall := end_all hk listed hcl h3
        have hq := fin a w ⟨hf.below, hf.size, hf.defers, hf.old, fun j hj _ => hf.fact j hj (hall j hj)⟩
        unfold wpOp
        simp only [List.getElem?_toArray, end_last]
        rw [if_pos (by simp [Region.wanted, hgd])]
        refine .inl (Oper.wp_mono ?_ hq)
        intro a' w' hq'
        have hnone : Region.ready .any (pre ++ [o]).toArray (listed.setIfInBounds pre.length true) = [] := by
          apply List.eq_nil_iff_forall_not_mem.2
          intro j hj
          obtain ⟨g1, g2, _⟩ := mem_ready.1 hj
          have hlt : (listed.setIfInBounds pre.length true).getD j false = true := by
            by_cases hjp : j < pre.length
            · exact hkeep j (hall j hjp)
            · obtain rfl : j = pre.length := by simp at g1; omega
              rw [getD_listed, Array.toList_setIfInBounds]
              have h4 : pre.length < listed.toList.length := by simp [hl]
              rw [List.getElem?_set_self h4]
              rfl
          rw [getD_listed] at hlt g2
          cases h : (listed.setIfInBounds pre.length true).toList[j]? with
          | none => rw [h] at hlt; simp at hlt
          | some b => rw [h] at hlt g2; simp at hlt g2; rw [hlt] at g2; simp at g2
        cases fuel with
        | zero => exact ⟨hnone, hq'⟩
        | succ fuel => exact ⟨fun _ => hq', fun j hj => by rw [hnone] at hj; simp at hj⟩
end

/-- A region that draws its order and ends in a store: the table of its slots, the list of its facts, each operation's due, and the store. -/
theorem region_owes_end {P : Program} {ops pre : List Oper} {st : Oper} {Q : Exit → Act → World → Prop} {a0 : Act} {w0 : World} {id : Nat} (L : List Fact) (T : List Nat) (hm : P.follows .mixedOrders = true) (hops : ops = pre ++ [st]) (hs : shapely a0.tmps.size pre 0 [] = true) (hk : sinks pre st = true)
    (hT : pre.map (fun o => o.dst.getD 0) = T) (owes : OwesFrom P Q L T a0 w0 0 pre)
    (fin : ∀ a w, Below w0.heap.size w0 w → a.tmps.size = a0.tmps.size → a.defers = a0.defers → (∀ s, T.contains s = false → a.tmps.getD s undef = a0.tmps.getD s undef) →
      (∀ i, i < T.length → (L.getD i Fact.any).1 w (a.tmps.getD (T.getD i 0) undef)) → st.wp P a w (fun a' w' => Q .normal a' w') Q) : (Code.region id ops.toArray true).wp P Q a0 w0 := by
  subst hops
  refine wp_region_any hm (facts_end (F := fun i => (L.getD i Fact.any).1) (a0 := a0) (w0 := w0) hs hk (fun i w w' v hb h => (L.getD i Fact.any).2 w w' v hb h) ?_ ?_ _ _ a0 _ (by simp) ?_ ?_ ?_ ?_)
  · intro i o ho a w hb hold hdeps
    have hown := owes.at i o ho
    rw [Nat.zero_add] at hown
    have hlen : i < pre.length := (List.getElem?_eq_some_iff.1 ho).1
    obtain ⟨d, k1, k2, _, k4, _, k6⟩ := shapely_spec pre 0 [] hs i o ho
    have hw := hown a w hb (fun s h => hold s (table_apart hT s h)) (fun j hj => by
      obtain ⟨e, he, hej⟩ := List.any_eq_true.1 hj
      have he : e ∈ o.after := by simpa using he
      simp only [Bool.and_eq_true, beq_iff_eq] at hej
      have := hdeps e he hej.2
      have hlt := k4 e he hej.2
      rw [hej.1, table_at hT j (by omega)] at this
      exact this)
    have hslot : ∀ g : Nat, g < pre.length → yielded (pre ++ [st]).toArray a.tmps g = (match a.tmps.getD (T.getD g 0) undef with | .bool b => some b | _ => none) := by
      intro g hg
      obtain ⟨d', l1, _⟩ := shapely_spec pre 0 [] hs g pre[g] (List.getElem?_eq_getElem hg)
      have hd' : T.getD g 0 = d' := by rw [← table_at hT g hg]; simp [dstOf, hg, l1]
      rw [hd', Array.getD_eq_getD_getElem?]
      unfold yielded
      simp only [List.getElem?_toArray, end_at hg, List.getElem?_eq_getElem hg, Option.bind_some, l1]
      cases h : a.tmps[d']? with
      | none => rfl
      | some x => cases x <;> rfl
    unfold wpOp
    simp only [List.getElem?_toArray, end_at hlen, ho]
    rcases hw with ⟨hg, hw⟩ | ⟨⟨g, hgd, hne⟩, hu⟩
    · rw [if_pos]
      · exact .inl hw
      · unfold Region.wanted
        cases hgd : o.guard with
        | none => rfl
        | some g =>
          have hv := hg _ hgd
          have hy := hslot g.1 (by have := k6 g hgd; omega)
          rw [hv] at hy
          show (yielded (pre ++ [st]).toArray a.tmps g.1 == some g.2) = true
          rw [hy]
          simp
    · rw [if_neg]
      · exact ⟨Below.refl _ _, undef, rfl, hu⟩
      · unfold Region.wanted
        rw [hgd]
        have hy := hslot g.1 (by have := k6 g hgd; omega)
        show ¬ (yielded (pre ++ [st]).toArray a.tmps g.1 == some g.2) = true
        rw [hy]
        intro hh
        apply hne
        generalize a.tmps.getD (T.getD g.1 0) undef = x at hh ⊢
        cases x <;> simp_all
  · intro a w hf
    exact fin a w hf.below hf.size hf.defers (fun s h => hf.old s (table_apart hT s h)) (fun i hi => by
      have hi' : i < pre.length := by rw [← hT] at hi; simpa using hi
      have := hf.fact i hi' trivial
      rwa [table_at hT i hi'] at this)
  · have : ∀ n, cnt (List.replicate n false) = n := by
      intro n
      induction n with
      | zero => rfl
      | succ n ih => simp [List.replicate_succ, cnt, ih]; omega
    simp [this]
  · intro j o ho h
    have hj : j < (pre ++ [st]).length := (List.getElem?_eq_some_iff.1 ho).1
    rw [getD_listed] at h
    simp only [List.length_append, List.length_cons, List.length_nil] at hj
    simp [hj] at h
  · rw [getD_listed]
    simp
  · refine ⟨(Below.refl _ _).drew, rfl, rfl, fun _ _ => rfl, ?_⟩
    intro i hi h
    rw [getD_listed] at h
    have hj : i < pre.length + 1 := by omega
    simp [hj] at h

/-- The same, where it ends. -/
theorem region_owes_endN {P : Program} {ops : List Oper} {st : Oper} {Q : Exit → Act → World → Prop} {a0 : Act} {w0 : World} {id : Nat} (n : Nat) (L : List Fact) (T : List Nat) (hm : P.follows .mixedOrders = true) (hn : ops[n]? = some st) (hl : ops.length = n + 1) (hs : shapely a0.tmps.size (ops.take n) 0 [] = true) (hk : sinks (ops.take n) st = true)
    (hT : (ops.take n).map (fun o => o.dst.getD 0) = T) (owes : OwesFrom P Q L T a0 w0 0 (ops.take n))
    (fin : ∀ a w, Below w0.heap.size w0 w → a.tmps.size = a0.tmps.size → a.defers = a0.defers → (∀ s, T.contains s = false → a.tmps.getD s undef = a0.tmps.getD s undef) →
      (∀ i, i < T.length → (L.getD i Fact.any).1 w (a.tmps.getD (T.getD i 0) undef)) → st.wp P a w (fun a' w' => Q .normal a' w') Q) : (Code.region id ops.toArray true).wp P Q a0 w0 := by
  refine region_owes_end L T hm ?_ hs hk hT owes fin
  have hlt : n < ops.length := by omega
  have e : ops[n] = st := by rw [List.getElem?_eq_getElem hlt] at hn; simpa using hn
  rw [← e, ← List.take_succ_eq_append_getElem hlt, List.take_of_length_le (by omega)]

end Go.Proofs.Ytlackjldopeigaa

/-
  A region that draws its order (Facts) whose last operations stand behind all others, each behind the one ahead of it: they come up one by one.
-/
namespace Go.Proofs.Ytlackjldopeigaa
open Go.RowKit
set_option linter.unusedVariables false

/-- The last ones, one by one. -/
def TailWp (P : Program) (Q : Exit → Act → World → Prop) : List Oper → Act → World → Prop
  | [], a, w => Q .normal a w
  | o :: l, a, w => o.wp P a w (fun a' w' => TailWp P Q l a' w') Q

/-- Operation j waits for operation i. -/
def waitsFor (o : Oper) (i : Nat) : Bool := o.after.toList.any fun e => e.on == i && Region.binds .any e
/-- Each has no guard, waits for what stands ahead of it alone, and for the one just ahead. -/
def inLine : List Oper → Nat → Bool
  | [], _ => true
  | o :: l, n => o.guard.isNone && o.after.all (fun e => !Region.binds .any e || decide (e.on < n)) && (l.head?.all fun x => waitsFor x n) && inLine l (n + 1)
/-- Each of the first ones is waited for by one that stands behind it, or by the first of the last ones. -/
def sinksT (pre : List Oper) (st : Oper) : Bool :=
  (List.range pre.length).all fun i => waitsFor st i || (List.range pre.length).any fun j => decide (i < j) && waits pre j i

section
variable {P : Program} {Q : Exit → Act → World → Prop}

theorem mem_tail {ops : List Oper} {listed : Array Bool} {n : Nat} (hl : listed.size = ops.length) (h1 : ∀ i, i < n → listed.getD i false = true) {i : Nat} (hi : i ∈ Region.ready .any ops.toArray listed) : n ≤ i := by
  obtain ⟨g1, g2, _⟩ := mem_ready.1 hi
  rcases Nat.lt_or_ge i n with h | h
  · have := h1 i h
    rw [getD_listed] at this g2
    cases hq : listed.toList[i]? with
    | none => rw [hq] at this; simp at this
    | some b => rw [hq] at this g2; simp at this g2; rw [this] at g2; simp at g2
  · exact h

theorem tail_wp {ops : List Oper} : ∀ (l : List Oper) (n fuel : Nat) (listed : Array Bool) (a : Act) (w : World), ops.drop n = l → n ≤ ops.length → inLine l n = true → listed.size = ops.length → (∀ i, i < n → listed.getD i false = true) → (∀ i, n ≤ i → listed.getD i false = false) → l.length ≤ fuel → TailWp P Q l a w → wpAny P .any ops.toArray Q fuel listed a w := by
  intro l
  induction l with
  | nil =>
    intro n fuel listed a w hd hn _ hl h1 _ _ hq
    have he : n = ops.length := by have := congrArg List.length hd; simp at this; omega
    have hnone : Region.ready .any ops.toArray listed = [] := by
      apply List.eq_nil_iff_forall_not_mem.2
      intro i hi
      have := mem_tail hl h1 hi
      have := (mem_ready.1 hi).1
      omega
    cases fuel with
    | zero => exact ⟨hnone, hq⟩
    | succ fuel => exact ⟨fun _ => hq, fun i hi => by rw [hnone] at hi; simp at hi⟩
  | cons o l ih =>
    intro n fuel listed a w hd hn hin hl h1 h2 hf hq
    have hlen : n < ops.length := by have := congrArg List.length hd; simp at this; omega
    have ho : ops[n]? = some o := by
      have := congrArg (fun x => x[0]?) hd
      simpa using this
    have hrest : ops.drop (n + 1) = l := by
      have := congrArg List.tail hd
      simpa using this
    rw [inLine] at hin
    simp only [Bool.and_eq_true] at hin
    obtain ⟨⟨⟨hg, haft⟩, hnext⟩, hin'⟩ := hin
    have hgd : o.guard = none := by simpa using hg
    have hfn : ∀ i, listed.getD i true = false ↔ listed.getD i false = false ∧ i < ops.length := by
      intro i
      rw [getD_listed, getD_listed]
      cases hq : listed.toList[i]? with
      | none =>
        have : ¬ i < ops.length := by
          intro hlt
          rw [List.getElem?_eq_none_iff] at hq
          simp at hq
          omega
        simp [this]
      | some b =>
        have : i < ops.length := by
          have := (List.getElem?_eq_some_iff.1 hq).1
          simp at this
          omega
        simp [this]
    have honly : ∀ i ∈ Region.ready .any ops.toArray listed, i = n := by
      intro i hi
      have hni := mem_tail hl h1 hi
      obtain ⟨g1, g2, oi, hoi, g3⟩ := mem_ready.1 hi
      rcases Nat.lt_or_ge n i with hlt | hge
      · exfalso
        have key : ∀ (l : List Oper) (m : Nat), ops.drop m = l → inLine l m = true → m < i → n ≤ m → False := by
          intro l
          induction l with
          | nil =>
            intro m hd _ hm _
            have := congrArg List.length hd
            simp at this
            omega
          | cons x l ihl =>
            intro m hd hin hm hnm
            have hrest : ops.drop (m + 1) = l := by
              have := congrArg List.tail hd
              simpa using this
            rw [inLine] at hin
            simp only [Bool.and_eq_true] at hin
            obtain ⟨⟨_, hnext⟩, hin'⟩ := hin
            by_cases hmi : m + 1 = i
            · have hhead : l.head? = some oi := by
                rw [← hrest, List.head?_drop, hmi, hoi]
              rw [hhead] at hnext
              simp only [Option.all_some] at hnext
              unfold waitsFor at hnext
              obtain ⟨e, he, hej⟩ := List.any_eq_true.1 hnext
              simp only [Bool.and_eq_true, beq_iff_eq] at hej
              have := g3 e (by simpa using he) hej.2
              rw [hej.1, h2 m hnm] at this
              simp at this
            · exact ihl (m + 1) hrest hin' (by omega) (by omega)
        exact key (o :: l) n hd (by rw [inLine]; simp [hg, haft, hnext, hin']) hlt (Nat.le_refl _)
      · omega
    have hready : n ∈ Region.ready .any ops.toArray listed := by
      refine mem_ready.2 ⟨hlen, (hfn n).2 ⟨h2 n (Nat.le_refl _), hlen⟩, o, ho, ?_⟩
      intro e he hb
      rw [Array.all_eq_true_iff_forall_mem] at haft
      have := haft e he
      rw [hb] at this
      simp at this
      exact h1 e.on this
    cases fuel with
    | zero => simp at hf
    | succ fuel =>
      refine ⟨fun hr => (by rw [hr] at hready; simp at hready), ?_⟩
      intro i hi
      obtain rfl := honly i hi
      unfold wpOp
      simp only [List.getElem?_toArray, ho]
      rw [if_pos (by simp [Region.wanted, hgd])]
      refine .inl (Oper.wp_mono ?_ hq)
      intro a' w' hq'
      refine ih (i + 1) fuel _ a' w' hrest (by omega) hin' (by simpa using hl) ?_ ?_ (by simp at hf; omega) hq'
      · intro j hj
        rw [getD_listed, Array.toList_setIfInBounds]
        by_cases hji : i = j
        · subst hji
          have h4 : i < listed.toList.length := by simp; omega
          rw [List.getElem?_set_self h4]
          rfl
        · rw [List.getElem?_set_ne hji, ← getD_listed]
          exact h1 j (by omega)
      · intro j hj
        rw [getD_listed, Array.toList_setIfInBounds, List.getElem?_set_ne (by omega), ← getD_listed]
        exact h2 j (by omega)

variable {pre post : List Oper} {F : Nat → World → Value → Prop} {a0 : Act} {w0 : World}

theorem facts_tail (hs : shapely a0.tmps.size pre 0 [] = true) (hpos : ∃ st l, post = st :: l ∧ sinksT pre st = true) (hin : inLine post pre.length = true) (mono : ∀ i w w' v, Below w.heap.size w w' → F i w v → F i w' v)
    (owes : ∀ i o, pre[i]? = some o → ∀ a w, Below w0.heap.size w0 w → (∀ s, apart pre s = true → a.tmps.getD s undef = a0.tmps.getD s undef) → (∀ e ∈ o.after, Region.binds .any e = true → F e.on w (a.tmps.getD (dstOf pre e.on) undef)) →
      wpOp P (pre ++ post).toArray Q i (fun a' w' => Below w.heap.size w w' ∧ ∃ v, a' = a.put o.dst v ∧ F i w' v) a w)
    (fin : ∀ a w, FitsE pre F a0 w0 (fun _ => True) a w → TailWp P Q post a w) :
    ∀ (fuel : Nat) (listed : Array Bool) (a : Act) (w : World), listed.size = (pre ++ post).length → cnt listed.toList ≤ fuel → Closed (pre ++ post) listed → (∀ i, pre.length ≤ i → listed.getD i false = false) → FitsE pre F a0 w0 (fun i => listed.getD i false = true) a w → wpAny P .any (pre ++ post).toArray Q fuel listed a w := by
  obtain ⟨st, lst, hpost, hk⟩ := hpos
  have hat : ∀ {i : Nat}, i < pre.length → (pre ++ post)[i]? = pre[i]? := fun hi => List.getElem?_append_left hi
  have hcnt : ∀ l : List Bool, (∀ i : Nat, pre.length ≤ i → l[i]?.getD false = false) → l.length = (pre ++ post).length → post.length ≤ cnt l := by
    intro l h hlen
    have hge : ∀ (m : List Bool), (∀ i : Nat, m[i]?.getD false = false) → cnt m = m.length := by
      intro m
      induction m with
      | nil => intro _; rfl
      | cons b m ih =>
        intro hm
        have h0 : b = false := by simpa using hm 0
        subst h0
        have := ih fun i => by simpa using hm (i + 1)
        simp [cnt, this]
        omega
    have happ : ∀ (x y : List Bool), cnt (x ++ y) = cnt x + cnt y := by
      intro x y
      induction x with
      | nil => simp [cnt]
      | cons b x ih => simp [cnt, ih]; omega
    have h1 := hge (l.drop pre.length) fun i => by
      rw [List.getElem?_drop]
      exact h (pre.length + i) (by omega)
    have h2 := happ (l.take pre.length) (l.drop pre.length)
    rw [List.take_append_drop, h1] at h2
    simp at h2 hlen
    omega
  intro fuel
  induction fuel with
  | zero =>
    intro listed a w hl hc hcl hn hf
    have := hcnt listed.toList (fun i hi => by rw [← getD_listed]; exact hn i hi) (by simpa using hl)
    rw [hpost] at this
    simp at this
    omega
  | succ fuel ih =>
    intro listed a w hl hc hcl hn hf
    by_cases hall : ∀ i, i < pre.length → listed.getD i false = true
    · refine tail_wp post pre.length (fuel + 1) listed a w (by simp) (by simp) hin (by simpa using hl) hall hn ?_ (fin a w ⟨hf.below, hf.size, hf.defers, hf.old, fun i hi _ => hf.fact i hi (hall i hi)⟩)
      have := hcnt listed.toList (fun i hi => by rw [← getD_listed]; exact hn i hi) (by simpa using hl)
      omega
    refine ⟨?_, ?_⟩
    · intro hr
      exfalso
      apply hall
      intro i
      induction i using Nat.strongRecOn with
      | _ i ih' =>
        intro hi
        cases hc' : listed.getD i true with
        | true =>
          have h1 : i < listed.size := by simp at hl; omega
          simp only [Array.getD, h1, dif_pos] at hc' ⊢
          exact hc'
        | false =>
          have hm : i ∈ Region.ready .any (pre ++ post).toArray listed := by
            refine mem_ready.2 ⟨by simp; omega, hc', pre[i], by rw [hat hi]; exact List.getElem?_eq_getElem hi, ?_⟩
            intro e he hb
            obtain ⟨d, _, _, _, h4, _⟩ := shapely_spec pre 0 [] hs i pre[i] (List.getElem?_eq_getElem hi)
            have := h4 e he hb
            exact ih' e.on (by omega) (by omega)
          rw [hr] at hm
          simp at hm
    · intro i hi
      obtain ⟨h1, h2, o, ho, h3⟩ := mem_ready.1 hi
      have hli : listed.toList[i]? = some false := by
        rw [getD_listed] at h2
        have h4 : i < listed.toList.length := by simp at h1 hl; simp; omega
        rw [List.getElem?_eq_getElem h4] at h2 ⊢
        simpa using h2
      have hkeep : ∀ j, listed.getD j false = true → (listed.setIfInBounds i true).getD j false = true := by
        intro j hj
        rw [getD_listed] at hj ⊢
        rw [Array.toList_setIfInBounds]
        by_cases hji : i = j
        · subst hji; rw [hli] at hj; simp at hj
        · rw [List.getElem?_set_ne hji]; exact hj
      have hback : ∀ j, j ≠ i → (listed.setIfInBounds i true).getD j false = true → listed.getD j false = true := by
        intro j hji hj
        rw [getD_listed] at hj ⊢
        rw [Array.toList_setIfInBounds, List.getElem?_set_ne (Ne.symm hji)] at hj
        exact hj
      have hip : i < pre.length := by
        rcases Nat.lt_or_ge i pre.length with h | h
        · exact h
        · exfalso
          rcases Nat.lt_or_ge pre.length i with hlt | hge
          · have key : ∀ (l : List Oper) (m : Nat), (pre ++ post).drop m = l → inLine l m = true → m < i → pre.length ≤ m → False := by
              intro l
              induction l with
              | nil =>
                intro m hd _ hm _
                have := congrArg List.length hd
                rw [List.length_drop, List.length_nil] at this
                omega
              | cons x l ihl =>
                intro m hd hin hm hnm
                have hrest : (pre ++ post).drop (m + 1) = l := by
                  have := congrArg List.tail hd
                  rw [List.tail_drop, List.tail_cons] at this
                  exact this
                rw [inLine] at hin
                simp only [Bool.and_eq_true] at hin
                obtain ⟨⟨_, hnext⟩, hin'⟩ := hin
                by_cases hmi : m + 1 = i
                · have hhead : l.head? = some o := by
                    rw [← hrest, List.head?_drop, hmi, ho]
                  rw [hhead] at hnext
                  simp only [Option.all_some] at hnext
                  unfold waitsFor at hnext
                  obtain ⟨e, he, hej⟩ := List.any_eq_true.1 hnext
                  simp only [Bool.and_eq_true, beq_iff_eq] at hej
                  have := h3 e (by simpa using he) hej.2
                  rw [hej.1, hn m hnm] at this
                  simp at this
                · exact ihl (m + 1) hrest hin' (by omega) (by omega)
            exact key post pre.length (by simp) hin hlt (Nat.le_refl _)
          · obtain rfl : i = pre.length := by omega
            have hos : o = st := by
              rw [hpost] at ho
              simp at ho
              exact ho.symm
            subst hos
            apply hall
            unfold sinksT at hk
            rw [List.all_eq_true] at hk
            have key : ∀ d j, j + d = pre.length → j < pre.length → listed.getD j false = true := by
              intro d
              induction d using Nat.strongRecOn with
              | _ d ihd =>
                intro j hjd hj
                have h := hk j (List.mem_range.2 hj)
                rw [Bool.or_eq_true] at h
                rcases h with h | h
                · unfold waitsFor at h
                  obtain ⟨e, he, hej⟩ := List.any_eq_true.1 h
                  simp only [Bool.and_eq_true, beq_iff_eq] at hej
                  rw [← hej.1]
                  exact h3 e (by simpa using he) hej.2
                · obtain ⟨t, ht, htj⟩ := List.any_eq_true.1 h
                  rw [List.mem_range] at ht
                  simp only [Bool.and_eq_true, decide_eq_true_eq] at htj
                  have hlt := ihd (pre.length - t) (by omega) t (by omega) ht
                  have hw := htj.2
                  unfold waits at hw
                  rw [List.getElem?_eq_getElem ht] at hw
                  simp only [Option.map_some, Option.getD_some, List.any_eq_true, Bool.and_eq_true, beq_iff_eq] at hw
                  obtain ⟨e, he, hei, hb⟩ := hw
                  have := hcl t pre[t] (by rw [hat ht]; exact List.getElem?_eq_getElem ht) hlt e (by simpa using he) hb
                  rw [← hei]
                  exact this
            intro j hj
            exact key (pre.length - j) j (by omega) hj
      have ho' : pre[i]? = some o := by rw [← hat hip]; exact ho
      obtain ⟨d, k1, k2, _, k4, k5, _⟩ := shapely_spec pre 0 [] hs i o ho'
      have hdi : dstOf pre i = d := by simp [dstOf, ho', k1]
      refine wpOp_mono ?_ (owes i o ho' a w hf.below hf.old (fun e he hb => hf.fact e.on (by have := k4 e he hb; omega) (h3 e he hb)))
      rintro a' w' ⟨hb, v, rfl, hv⟩
      rw [k1]
      refine ih _ _ w' (by simpa using hl) ?_ ?_ ?_ ?_
      · have := cnt_set listed.toList i hli
        rw [Array.toList_setIfInBounds]
        omega
      · intro j oj hoj hj e he hb
        by_cases hji : j = i
        · subst hji
          rw [ho] at hoj
          simp at hoj
          subst hoj
          exact hkeep _ (h3 e he hb)
        · exact hkeep _ (hcl j oj hoj (hback j hji hj) e he hb)
      · intro j hj
        cases hq : (listed.setIfInBounds i true).getD j false with
        | false => rfl
        | true =>
          have := hback j (by omega) hq
          rw [hn j hj] at this
          exact this.symm
      · refine ⟨hf.below.trans (hb.mono hf.below.size), by rw [size_put]; exact hf.size, by rw [defers_put]; exact hf.defers, ?_, ?_⟩
        · intro s hsl
          have hne : d ≠ s := by
            intro h
            subst h
            have := List.all_eq_true.1 hsl o (List.mem_of_getElem? ho')
            rw [k1] at this
            simp at this
          rw [getD_put_ne a d s v hne]
          exact hf.old s hsl
        · intro j hj hdone
          by_cases hji : j = i
          · subst hji
            rw [hdi, getD_put_same a d v (by rw [hf.size]; exact k2)]
            exact hv
          · have hdone' : listed.getD j false = true := hback j hji hdone
            obtain ⟨d', l1, l2, _, _, l5, _⟩ := shapely_spec pre 0 [] hs j pre[j] (List.getElem?_eq_getElem hj)
            have hdj : dstOf pre j = d' := by simp [dstOf, l1, hj]
            have hne : d ≠ d' := by
              intro h
              subst h
              rcases Nat.lt_or_gt_of_ne hji with h | h
              · exact k5 j pre[j] h (List.getElem?_eq_getElem hj) l1
              · exact l5 i o h ho' k1
            have hfj := hf.fact j hj hdone'
            rw [hdj] at hfj ⊢
            rw [getD_put_ne a d d' v hne]
            exact mono j w w' _ hb hfj
end

/-- A region that draws its order, n operations of which come first: the table of their slots, the list of their facts, each one's due, and what comes up one by one behind them. -/
theorem region_owes_tail {P : Program} {ops post : List Oper} {Q : Exit → Act → World → Prop} {a0 : Act} {w0 : World} {id : Nat} (n : Nat) (L : List Fact) (T : List Nat) (hm : P.follows .mixedOrders = true) (hp : ops.drop n = post) (hn : n ≤ ops.length) (hs : shapely a0.tmps.size (ops.take n) 0 [] = true)
    (hk : (post.head?.any fun st => sinksT (ops.take n) st) = true) (hin : inLine post n = true)
    (hT : (ops.take n).map (fun o => o.dst.getD 0) = T) (owes : OwesFrom P Q L T a0 w0 0 (ops.take n))
    (fin : ∀ a w, Below w0.heap.size w0 w → a.tmps.size = a0.tmps.size → a.defers = a0.defers → (∀ s, T.contains s = false → a.tmps.getD s undef = a0.tmps.getD s undef) →
      (∀ i, i < T.length → (L.getD i Fact.any).1 w (a.tmps.getD (T.getD i 0) undef)) → TailWp P Q post a w) : (Code.region id ops.toArray true).wp P Q a0 w0 := by
  obtain ⟨pre, hpre⟩ : ∃ pre, ops.take n = pre := ⟨_, rfl⟩
  have hops : ops = pre ++ post := by rw [← hpre, ← hp, List.take_append_drop]
  have hlen : pre.length = n := by rw [← hpre]; simp; omega
  rw [hpre] at hs hk hT owes
  rw [← hlen] at hin
  clear hp hn
  have hpos : ∃ st l, post = st :: l ∧ sinksT pre st = true := by
    cases post with
    | nil => simp at hk
    | cons st l => exact ⟨st, l, rfl, by simpa using hk⟩
  subst hops
  refine wp_region_any hm (facts_tail (F := fun i => (L.getD i Fact.any).1) (a0 := a0) (w0 := w0) hs hpos hin (fun i w w' v hb h => (L.getD i Fact.any).2 w w' v hb h) ?_ ?_ _ _ a0 _ (by simp) ?_ ?_ ?_ ?_)
  · intro i o ho a w hb hold hdeps
    have hown := owes.at i o ho
    rw [Nat.zero_add] at hown
    have hlen : i < pre.length := (List.getElem?_eq_some_iff.1 ho).1
    obtain ⟨d, k1, k2, _, k4, _, k6⟩ := shapely_spec pre 0 [] hs i o ho
    have hw := hown a w hb (fun s h => hold s (table_apart hT s h)) (fun j hj => by
      obtain ⟨e, he, hej⟩ := List.any_eq_true.1 hj
      have he : e ∈ o.after := by simpa using he
      simp only [Bool.and_eq_true, beq_iff_eq] at hej
      have := hdeps e he hej.2
      have hlt := k4 e he hej.2
      rw [hej.1, table_at hT j (by omega)] at this
      exact this)
    have hat : ∀ {i : Nat}, i < pre.length → (pre ++ post)[i]? = pre[i]? := fun hi => List.getElem?_append_left hi
    have hslot : ∀ g : Nat, g < pre.length → yielded (pre ++ post).toArray a.tmps g = (match a.tmps.getD (T.getD g 0) undef with | .bool b => some b | _ => none) := by
      intro g hg
      obtain ⟨d', l1, _⟩ := shapely_spec pre 0 [] hs g pre[g] (List.getElem?_eq_getElem hg)
      have hd' : T.getD g 0 = d' := by rw [← table_at hT g hg]; simp [dstOf, hg, l1]
      rw [hd', Array.getD_eq_getD_getElem?]
      unfold yielded
      simp only [List.getElem?_toArray, hat hg, List.getElem?_eq_getElem hg, Option.bind_some, l1]
      cases h : a.tmps[d']? with
      | none => rfl
      | some x => cases x <;> rfl
    unfold wpOp
    simp only [List.getElem?_toArray, hat hlen, ho]
    rcases hw with ⟨hg, hw⟩ | ⟨⟨g, hgd, hne⟩, hu⟩
    · rw [if_pos]
      · exact .inl hw
      · unfold Region.wanted
        cases hgd : o.guard with
        | none => rfl
        | some g =>
          have hv := hg _ hgd
          have hy := hslot g.1 (by have := k6 g hgd; omega)
          rw [hv] at hy
          show (yielded (pre ++ post).toArray a.tmps g.1 == some g.2) = true
          rw [hy]
          simp
    · rw [if_neg]
      · exact ⟨Below.refl _ _, undef, rfl, hu⟩
      · unfold Region.wanted
        rw [hgd]
        have hy := hslot g.1 (by have := k6 g hgd; omega)
        show ¬ (yielded (pre ++ post).toArray a.tmps g.1 == some g.2) = true
        rw [hy]
        intro hh
        apply hne
        generalize a.tmps.getD (T.getD g.1 0) undef = x at hh ⊢
        cases x <;> simp_all
  · intro a w hf
    exact fin a w hf.below hf.size hf.defers (fun s h => hf.old s (table_apart hT s h)) (fun i hi => by
      have hi' : i < pre.length := by rw [← hT] at hi; simpa using hi
      have := hf.fact i hi' trivial
      rwa [table_at hT i hi'] at this)
  · have : ∀ n, cnt (List.replicate n false) = n := by
      intro n
      induction n with
      | zero => rfl
      | succ n ih => simp [List.replicate_succ, cnt, ih]; omega
    simp [this]
  · intro j o ho h
    have hj : j < (pre ++ post).length := (List.getElem?_eq_some_iff.1 ho).1
    rw [getD_listed] at h
    simp only [List.length_append] at hj
    simp [hj] at h
  · intro i hi
    rw [getD_listed]
    simp only [Array.toList_replicate]
    by_cases hlt : i < pre.length + post.length
    · simp [hlt]
    · rw [List.getElem?_eq_none (by simp; omega)]
      rfl
  · refine ⟨(Below.refl _ _).drew, rfl, rfl, fun _ _ => rfl, ?_⟩
    intro i hi h
    rw [getD_listed] at h
    have hj : i < pre.length + post.length := by omega
    simp [hj] at h

/-- An assignment among the last ones. -/
theorem wp_assign {P : Program} {o : Oper} {a : Act} {w : World} {K : Act → World → Prop} {Q : Exit → Act → World → Prop} (x : Operand) (ho : o.op = .assign x) (h : K (a.put o.dst (a.eval x)) w) : o.wp P a w K Q := by
  unfold Oper.wp execOp
  rw [ho]
  exact h

end Go.Proofs.Ytlackjldopeigaa

/-
  Arguments that are structs and arrays of int64s, one in the other: their cells are int64s.
-/
namespace Go.Proofs.Ytlackjldopeigaa
open Go.ChangeShapes Go.WideShapes Go.ChangeAt Go.RowKit

/-- All cells of a value of this type are int64s. -/
def plainI (P : Program) : Nat → TypeId → Bool
  | 0, _ => false
  | d + 1, t => match P.underlying t with
    | some (.int k) => k == .i64
    | some (.struct fs) => fs.toList.all (fun f => plainI P d f.type) && (List.range (P.cellsOf t)).all fun i => fs.toList.any fun f => decide (f.offset ≤ i) && decide (i < f.offset + P.cellsOf f.type)
    | some (.array n e) => plainI P d e && (List.range (P.cellsOf t)).all fun i => (List.range n).any fun j => decide (j * P.cellsOf e ≤ i) && decide (i < j * P.cellsOf e + P.cellsOf e)
    | _ => false

/-- A cell that is an int64. -/
def IsI64 (v : Value) : Prop := ∃ n, v = .int .i64 n ∧ (Lit.int .i64 n).wf = true

section
variable {H : Type} {enc : TypeId × Value → H} {P : Program} {w : World} {base : Nat} {spare : Nat → Bool} {held : Bool}

theorem trod_i64 {t : TypeId} {k : IntKind} {fuel : Nat} {cs : List Value} {x : DataW H × List MemPlace} (hk : P.underlying t = some (.int k)) (ht : DataW.trod enc P w base spare held fuel t cs = some x) : ∃ m, cs = [.int k m] ∧ x = (.lit (.int k m), []) ∧ (Lit.int k m).wf = true := by
  cases fuel with
  | zero => simp [DataW.trod] at ht
  | succ n =>
    unfold DataW.trod at ht
    rw [hk] at ht
    split at ht <;> simp_all

theorem open_plain : ∀ (d : Nat) (fuel : Nat) (t : TypeId) (cs : List Value) (x : DataW H × List MemPlace), plainI P d t = true → DataW.trod enc P w base spare held fuel t cs = some x → ∀ (i : Nat) (v : Value), cs[i]? = some v → IsI64 v
  | 0, _, _, _, _, h, _ => by simp [plainI] at h
  | d + 1, fuel, t, cs, x, h, ht => by
    unfold plainI at h
    split at h
    · rename_i k hk
      have hk' : k = .i64 := by simpa using h
      subst hk'
      obtain ⟨m, rfl, _, hw⟩ := trod_i64 hk ht
      intro i v hi
      cases i with
      | zero =>
        simp at hi
        subst hi
        exact ⟨m, rfl, hw⟩
      | succ i => simp at hi
    · rename_i fs hk
      rw [Bool.and_eq_true, List.all_eq_true, List.all_eq_true] at h
      obtain ⟨xs, n, _, _, hl, hx, hf⟩ := DataW.trod_struct hk ht
      intro i v hi
      have hil : i < cs.length := (List.getElem?_eq_some_iff.1 hi).1
      have hc := h.2 i (by rw [List.mem_range, ← hl]; exact hil)
      rw [List.any_eq_true] at hc
      obtain ⟨f, hfm, hr⟩ := hc
      rw [Bool.and_eq_true, decide_eq_true_iff, decide_eq_true_iff] at hr
      obtain ⟨j, hj, hjf⟩ := List.getElem_of_mem hfm
      have hff : fs[j]? = some f := by rw [← hjf]; simp
      have hxj : ∃ y, xs[j]? = some y := ⟨xs[j]'(by rw [hx]; simpa using hj), List.getElem?_eq_getElem _⟩
      obtain ⟨y, hy⟩ := hxj
      have := hf j f hff
      rw [hy] at this
      refine open_plain d n f.type _ y (h.1 f hfm) this (i - f.offset) v ?_
      rw [List.getElem?_take_of_lt (by omega), List.getElem?_drop, show f.offset + (i - f.offset) = i by omega]
      exact hi
    · rename_i m e hk
      rw [Bool.and_eq_true, List.all_eq_true] at h
      obtain ⟨xs, n, _, _, hl, hx, hf⟩ := DataW.trod_array hk ht
      intro i v hi
      have hil : i < cs.length := (List.getElem?_eq_some_iff.1 hi).1
      have hc := h.2 i (by rw [List.mem_range, ← hl]; exact hil)
      rw [List.any_eq_true] at hc
      obtain ⟨j, hjm, hr⟩ := hc
      rw [Bool.and_eq_true, decide_eq_true_iff, decide_eq_true_iff] at hr
      have hj := List.mem_range.1 hjm
      have hxj : ∃ y, xs[j]? = some y := ⟨xs[j]'(by rw [hx]; exact hj), List.getElem?_eq_getElem _⟩
      obtain ⟨y, hy⟩ := hxj
      have := hf j hj
      rw [hy] at this
      refine open_plain d n e _ y h.1 this (i - j * P.cellsOf e) v ?_
      rw [List.getElem?_take_of_lt (by omega), List.getElem?_drop, show j * P.cellsOf e + (i - j * P.cellsOf e) = i by omega]
      exact hi
    · simp at h

theorem okWide_agg {W : World} {r : Reach} {t : TypeId} {v : Value} {fs : Array Field} (ht : P.underlying t = some (.struct fs)) (h : Value.okWide P W r base t v) : ∃ cs, v = .agg cs ∧ cs.size = P.cellsOf t := by
  simp only [Value.okWide, ht] at h
  obtain ⟨cs, h1, h2, _⟩ := h
  exact ⟨cs, h1, h2⟩
end

theorem plain3 {cs : Array Value} (hc : ∀ (i : Nat) (v : Value), cs.toList[i]? = some v → IsI64 v) (hs : cs.size = 3) :
    ∃ x0 x1 x2, cs = #[.int .i64 x0, .int .i64 x1, .int .i64 x2] ∧ (Lit.int .i64 x0).wf = true ∧ (Lit.int .i64 x1).wf = true ∧ (Lit.int .i64 x2).wf = true := by
  obtain ⟨l⟩ := cs
  match l, hs with
  | [v0, v1, v2], _ =>
    obtain ⟨x0, rfl, w0⟩ := hc 0 v0 rfl
    obtain ⟨x1, rfl, w1⟩ := hc 1 v1 rfl
    obtain ⟨x2, rfl, w2⟩ := hc 2 v2 rfl
    exact ⟨x0, x1, x2, rfl, w0, w1, w2⟩

theorem plain7 {cs : Array Value} (hc : ∀ (i : Nat) (v : Value), cs.toList[i]? = some v → IsI64 v) (hs : cs.size = 7) :
    ∃ x0 x1 x2 x3 x4 x5 x6, cs = #[.int .i64 x0, .int .i64 x1, .int .i64 x2, .int .i64 x3, .int .i64 x4, .int .i64 x5, .int .i64 x6] ∧ (Lit.int .i64 x0).wf = true ∧ (Lit.int .i64 x1).wf = true ∧ (Lit.int .i64 x2).wf = true ∧ (Lit.int .i64 x3).wf = true ∧ (Lit.int .i64 x4).wf = true ∧ (Lit.int .i64 x5).wf = true ∧ (Lit.int .i64 x6).wf = true := by
  obtain ⟨l⟩ := cs
  match l, hs with
  | [v0, v1, v2, v3, v4, v5, v6], _ =>
    obtain ⟨x0, rfl, w0⟩ := hc 0 v0 rfl
    obtain ⟨x1, rfl, w1⟩ := hc 1 v1 rfl
    obtain ⟨x2, rfl, w2⟩ := hc 2 v2 rfl
    obtain ⟨x3, rfl, w3⟩ := hc 3 v3 rfl
    obtain ⟨x4, rfl, w4⟩ := hc 4 v4 rfl
    obtain ⟨x5, rfl, w5⟩ := hc 5 v5 rfl
    obtain ⟨x6, rfl, w6⟩ := hc 6 v6 rfl
    exact ⟨x0, x1, x2, x3, x4, x5, x6, rfl, w0, w1, w2, w3, w4, w5, w6⟩

theorem plain8 {cs : Array Value} (hc : ∀ (i : Nat) (v : Value), cs.toList[i]? = some v → IsI64 v) (hs : cs.size = 8) :
    ∃ x0 x1 x2 x3 x4 x5 x6 x7, cs = #[.int .i64 x0, .int .i64 x1, .int .i64 x2, .int .i64 x3, .int .i64 x4, .int .i64 x5, .int .i64 x6, .int .i64 x7] ∧ (Lit.int .i64 x0).wf = true ∧ (Lit.int .i64 x1).wf = true ∧ (Lit.int .i64 x2).wf = true ∧ (Lit.int .i64 x3).wf = true ∧ (Lit.int .i64 x4).wf = true ∧ (Lit.int .i64 x5).wf = true ∧ (Lit.int .i64 x6).wf = true ∧ (Lit.int .i64 x7).wf = true := by
  obtain ⟨l⟩ := cs
  match l, hs with
  | [v0, v1, v2, v3, v4, v5, v6, v7], _ =>
    obtain ⟨x0, rfl, w0⟩ := hc 0 v0 rfl
    obtain ⟨x1, rfl, w1⟩ := hc 1 v1 rfl
    obtain ⟨x2, rfl, w2⟩ := hc 2 v2 rfl
    obtain ⟨x3, rfl, w3⟩ := hc 3 v3 rfl
    obtain ⟨x4, rfl, w4⟩ := hc 4 v4 rfl
    obtain ⟨x5, rfl, w5⟩ := hc 5 v5 rfl
    obtain ⟨x6, rfl, w6⟩ := hc 6 v6 rfl
    obtain ⟨x7, rfl, w7⟩ := hc 7 v7 rfl
    exact ⟨x0, x1, x2, x3, x4, x5, x6, x7, rfl, w0, w1, w2, w3, w4, w5, w6, w7⟩

end Go.Proofs.Ytlackjldopeigaa

/-
  Arguments that are slices of structs of int64s: their cells, row by row.
-/
namespace Go.Proofs.Ytlackjldopeigaa
open Go.ChangeShapes Go.WideShapes Go.ChangeAt Go.RowKit

/-- A slice of len rows of c int64s. -/
def PlainRows (w : World) (a : Option Addr) (len c : Nat) (Z : Nat → Nat → Int) : Prop :=
  len = 0 ∨ ∃ b off, a = some ⟨b, off, none⟩ ∧ b < w.heap.size ∧ ∀ i, i < len → ∀ j, j < c → w.cell? ⟨b, off + i * c + j, none⟩ = some (.int .i64 (Z i j)) ∧ (Lit.int .i64 (Z i j)).wf = true

theorem flat_add (b off i : Nat) : (⟨b, off, none⟩ : Addr).add i = ⟨b, off + i, none⟩ := by cases i <;> simp [Addr.add]

section
variable {H : Type} {enc : TypeId × Value → H} {P : Program} {W : World} {base : Nat}

theorem open_plain_slice {t e : TypeId} {d fuel c : Nat} {a : Option Addr} {len cap : Nat} {x : DataW H × List MemPlace} (ht : P.underlying t = some (.slice e)) (hp : plainI P d e = true) (hc : P.cellsOf e = c) (hc0 : 0 < c)
    (h : DataW.trod enc P W base (fun _ => true) true fuel t [.slice a len cap] = some x) : ∃ Z, PlainRows W a len c Z ∧ len ≤ cap ∧ cap ≤ maxLen ∧ (a = none → cap = 0) := by
  rcases Go.Deep.open_slice ht h with ⟨hcs, _⟩ | ⟨ad, len', cap', m, n, D, Pl, hcs, _, hl, hm, hmm, _, hel⟩
  · simp at hcs
    exact ⟨fun _ _ => 0, .inl hcs.2.1, by omega, by rw [hcs.2.2]; exact Nat.zero_le _, fun _ => hcs.2.2⟩
  · simp at hcs
    obtain ⟨rfl, rfl, rfl⟩ := hcs
    simp only [if_true] at hmm
    subst hmm
    rw [hc] at hel
    by_cases h0 : len = 0
    · exact ⟨fun _ _ => 0, .inl h0, hl, hm, fun h => by simp at h⟩
    have hall : ∀ p : Nat × Nat, ∃ z : Int, p.1 < len → p.2 < c → W.cell? ((ad.add (p.1 * c)).add p.2) = some (.int .i64 z) ∧ (Lit.int .i64 z).wf = true := by
      intro p
      by_cases hi : p.1 < len
      · by_cases hj : p.2 < c
        · obtain ⟨cs', h1, h2⟩ := hel p.1 (by omega)
          obtain ⟨_, hlen, hcell⟩ := World.cells?_some h1
          have hv : cs'[p.2]? = some (cs'[p.2]'(by rw [hlen]; exact hj)) := List.getElem?_eq_getElem _
          obtain ⟨z, hz, hw⟩ := open_plain d n e cs' _ hp h2 p.2 _ hv
          refine ⟨z, fun _ _ => ⟨?_, hw⟩⟩
          rw [hcell p.2 hj, hv, hz]
        · exact ⟨0, fun _ h => absurd h hj⟩
      · exact ⟨0, fun h => absurd h hi⟩
    obtain ⟨f, hq⟩ := Classical.axiomOfChoice hall
    obtain ⟨b, off, spot⟩ := ad
    have hs0 := (hq (0, 0) (by show 0 < len; omega) hc0).1
    have hspot : spot = none := by
      have := hs0
      simp [Addr.add] at this
      exact World.cell?_spot this
    subst hspot
    simp only [flat_add] at hq hs0
    exact ⟨fun i j => f (i, j), .inr ⟨b, off, rfl, block_lt_of_cell hs0, fun i hi j hj => hq (i, j) hi hj⟩, hl, hm, fun h => by simp at h⟩
end

end Go.Proofs.Ytlackjldopeigaa

/-
  Payments, and rows of payments, as a law is handed them.
-/
namespace Go.Proofs.Ytlackjldopeigaa
open Go.ChangeShapes Go.WideShapes Go.ChangeAt Go.RowKit
set_option linter.unusedVariables false

/-- Each number of it is an int64. -/
def Wf7 (p : P7) : Prop := (Lit.int .i64 p.id).wf = true ∧ (Lit.int .i64 p.fr).wf = true ∧ (Lit.int .i64 p.to).wf = true ∧ (Lit.int .i64 p.am).wf = true ∧ (Lit.int .i64 p.cl).wf = true ∧ (Lit.int .i64 p.st).wf = true ∧ (Lit.int .i64 p.ti).wf = true

theorem pays_of {w : World} {a : Option Addr} {len : Nat} {Z : Nat → Nat → Int} (h : PlainRows w a len 7 Z) : ∃ L : List P7, Pays w a len L ∧ ∀ p ∈ L, Wf7 p := by
  rcases h with h | ⟨b, off, ha, hb, hc⟩
  · exact ⟨[], ⟨h, .inl rfl⟩, fun p hp => by simp at hp⟩
  · refine ⟨(List.range len).map fun i => (Z i 0, Z i 1, Z i 2, Z i 3, Z i 4, Z i 5, Z i 6), ⟨by simp, .inr ⟨b, off, ha, fun i hi => ?_⟩⟩, fun p hp => ?_⟩
    · have hi' : i < len := by simpa using hi
      have e : ((List.range len).map fun i => ((Z i 0, Z i 1, Z i 2, Z i 3, Z i 4, Z i 5, Z i 6) : P7)).getD i p70 = (Z i 0, Z i 1, Z i 2, Z i 3, Z i 4, Z i 5, Z i 6) := by simp [List.getD_eq_getElem?_getD, hi']
      rw [e]
      exact ⟨(hc i hi' 0 (by omega)).1, (hc i hi' 1 (by omega)).1, (hc i hi' 2 (by omega)).1, (hc i hi' 3 (by omega)).1, (hc i hi' 4 (by omega)).1, (hc i hi' 5 (by omega)).1, (hc i hi' 6 (by omega)).1⟩
    · obtain ⟨i, hi, rfl⟩ := List.mem_map.1 hp
      have hi' : i < len := by simpa using hi
      exact ⟨(hc i hi' 0 (by omega)).2, (hc i hi' 1 (by omega)).2, (hc i hi' 2 (by omega)).2, (hc i hi' 3 (by omega)).2, (hc i hi' 4 (by omega)).2, (hc i hi' 5 (by omega)).2, (hc i hi' 6 (by omega)).2⟩

/-- A row of payments that came in. -/
def PaysIn (w : World) (a : Option Addr) (len cap : Nat) (L : List P7) : Prop := Pays w a len L ∧ (∀ p ∈ L, Wf7 p) ∧ len ≤ cap ∧ cap ≤ maxLen ∧ (a = none → cap = 0)

end Go.Proofs.Ytlackjldopeigaa

/-
  A row of payments that came in, in full.
-/
namespace Go.Proofs.Ytlackjldopeigaa
open Go.RowKit
set_option linter.unusedVariables false
theorem PaysIn.good {w : World} {a : Option Addr} {n c : Nat} {L : List P7} (h : PaysIn w a n c L) : PGood w a n c L := ⟨h.1, h.2.2.1, h.2.2.2.1, h.2.2.2.2⟩

end Go.Proofs.Ytlackjldopeigaa

/-
  Slices of integers and integers as a law hands them in.
-/
namespace Go.Proofs.Ytlackjldopeigaa
open Go.RowKit

namespace Walk

/-- A slice of integers that came in: nil, or a row of cells. -/
def IsRow (k : IntKind) (w : World) (a : Option Addr) (len cap : Nat) (zs : List Int) : Prop :=
  (a = none ∧ len = 0 ∧ cap = 0 ∧ zs = []) ∨
  ∃ x, a = some x ∧ len ≤ cap ∧ cap ≤ maxLen ∧ zs.length = cap ∧ (∀ i, i < zs.length → w.cell? (x.add i) = some (.int k (zs.getD i 0))) ∧ ∀ n ∈ zs, (Lit.int k n).wf = true

theorem IsRow.sl {k : IntKind} {w : World} {a : Option Addr} {len cap : Nat} {zs : List Int} (h : IsRow k w a len cap zs) (hk : ∀ n, (Lit.int k n).wf = true → k.wrap n = n) :
    Sl k w a len (zs.take len) ∧ len ≤ cap ∧ cap ≤ 9223372036854775807 := by
  rcases h with ⟨rfl, rfl, rfl, rfl⟩ | ⟨x, rfl, hl, hm, hz, hcell, hwz⟩
  · exact ⟨Sl.nil _ _ _, by omega, by omega⟩
  · unfold maxLen at hm
    refine ⟨⟨by simp; omega, fun n hn => hk n (hwz n (List.mem_of_mem_take hn)), ?_⟩, hl, by omega⟩
    by_cases h0 : len = 0
    · subst h0; exact .inl (by simp)
    · obtain ⟨b, off, spot⟩ := x
      have hs := hcell 0 (by omega)
      have hspot : spot = none := by simpa [Addr.add] using World.cell?_spot hs
      subst hspot
      refine .inr ⟨b, off, rfl, ?_⟩
      intro i hi
      simp at hi
      have h := hcell i (by omega)
      rw [Addr.add_flat] at h
      rw [h]
      simp [List.getD_eq_getElem?_getD]
      rw [List.getElem?_take_of_lt (by omega)]

theorem wf_u8' (n : Int) (h : (Lit.int .u8 n).wf = true) : IntKind.u8.wrap n = n := by
  simp only [Lit.wf, Bool.and_eq_true, decide_eq_true_eq] at h
  refine u8_wf ?_ ?_
  · exact h.1
  · exact h.2
theorem wf_i64' (n : Int) (h : (Lit.int .i64 n).wf = true) : IntKind.i64.wrap n = n := by
  simp only [Lit.wf, Bool.and_eq_true, decide_eq_true_eq] at h
  refine i64_wf ?_ ?_
  · exact h.1
  · exact h.2

theorem IsRow.none {k : IntKind} {w : World} {a : Option Addr} {len cap : Nat} {zs : List Int} (h : IsRow k w a len cap zs) : a = none → cap = 0 := by
  rcases h with ⟨rfl, rfl, rfl, rfl⟩ | ⟨x, rfl, _⟩
  · exact fun _ => rfl
  · intro h; simp at h

end Walk

end Go.Proofs.Ytlackjldopeigaa
