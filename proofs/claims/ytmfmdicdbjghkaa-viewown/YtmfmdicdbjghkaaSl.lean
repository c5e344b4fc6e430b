/-
  Slices of integers of whatever kind: what a walk is told of them, how they are cut, read as texts, and carried on.
-/
import Derived.Test.YtmfmdicdbjghkaaRows
import Derived.WalkKit
import Derived.WalkSpells
import Derived.Laws.Externs
import Derived.Laws.BytesArg
import Derived.Laws.AppendOwnNone
import Derived.Laws.OwnMore
import Derived.Deep.QuietTactic
import Derived.BigQuiet
import Derived.Deep.Light
import Derived.RegionTactic
import Derived.BigRegion
import Derived.Deep.RegionWith
import Derived.WalkSmall
namespace Go.Proofs.Ytmfmdicdbjghkaa
open Go.RowKit
set_option linter.unusedVariables false

theorem infoI64 : (Try.prog.info? 2).map (fun i => (i.zero, i.size, i.bytes)) = some (some (.int .i64 0), 1, 8) := by kernel_rfl
theorem infoU8 : (Try.prog.info? 5).map (fun i => (i.zero, i.size, i.bytes)) = some (some (.int .u8 0), 1, 1) := by kernel_rfl

/-- What the walk is told of a slice of integers: its elements. -/
def Sl (k : IntKind) (w : World) (a : Option Addr) (len : Nat) (zs : List Int) : Prop :=
  len = zs.length ∧ (∀ n ∈ zs, k.wrap n = n) ∧
    (zs = [] ∨ ∃ b off, a = some ⟨b, off, none⟩ ∧ ∀ i, i < zs.length → w.cell? ⟨b, off + i, none⟩ = some (.int k (zs.getD i 0)))

theorem Sl.len {k : IntKind} {w : World} {a : Option Addr} {len : Nat} {zs : List Int} (h : Sl k w a len zs) : len = zs.length := h.1
theorem Sl.wf {k : IntKind} {w : World} {a : Option Addr} {len : Nat} {zs : List Int} (h : Sl k w a len zs) : ∀ n ∈ zs, k.wrap n = n := h.2.1

theorem Sl.nil (k : IntKind) (w : World) (a : Option Addr) : Sl k w a 0 [] := ⟨rfl, fun n hn => by simp at hn, .inl rfl⟩

/-- What was there before stays as it is. -/
theorem Sl.below {k : IntKind} {w w' : World} {a : Option Addr} {len : Nat} {zs : List Int} (h : Sl k w a len zs) (hb : Below w.heap.size w w') : Sl k w' a len zs := by
  refine ⟨h.1, h.2.1, ?_⟩
  rcases h.2.2 with h0 | ⟨b, off, ha, hc⟩
  · exact .inl h0
  · refine .inr ⟨b, off, ha, fun i hi => ?_⟩
    rw [hb.cell (p := ⟨b, off + i, none⟩) (block_lt_of_cell (hc i hi)), hc i hi]

theorem Sl.drew {k : IntKind} {w : World} {a : Option Addr} {len : Nat} {zs : List Int} (h : Sl k w a len zs) (n : Nat) : Sl k (w.drewN n) a len zs := h

theorem Sl.alloc {k : IntKind} {w : World} {a : Option Addr} {len : Nat} {zs : List Int} (h : Sl k w a len zs) (o : Obj) : Sl k (w.alloc o) a len zs :=
  h.below ((Below.refl _ _).alloc (Nat.le_refl _) _)

/-- A slice that the call owns. -/
theorem Sl.own {k : IntKind} {w : World} {base : Nat} {T : TypeId} {v : Value} {ys : List Int} {n : Nat} (h : w.ownsRow base T 1 v n (ys.map (Value.int k)))
    (hwf : ∀ n ∈ ys, k.wrap n = n) : ∃ a cap, v = .slice a ys.length cap ∧ Sl k w a ys.length ys ∧ (a = none → cap = 0) := by
  have hn : n = ys.length := by have := h.1; simp at this; omega
  subst hn
  rcases h.2 with ⟨rfl, h0⟩ | ⟨g, cap, cur, rfl, _, _, _, _, _, _⟩
  · have : ys = [] := List.length_eq_zero_iff.mp h0
    subst this
    exact ⟨none, 0, rfl, ⟨rfl, hwf, .inl rfl⟩, fun _ => rfl⟩
  · refine ⟨some ⟨g, 0, none⟩, cap, rfl, ⟨rfl, hwf, .inr ⟨g, 0, rfl, ?_⟩⟩, fun h => by simp at h⟩
    intro i hi
    rw [Nat.zero_add, h.cellAt i (by omega)]
    simp [hi]

/-- A slice that has just been laid. -/
theorem Sl.new (k : IntKind) (w : World) (t : TypeId) (fr : Nat × Nat) (zs : List Int) (hwf : ∀ n ∈ zs, k.wrap n = n) :
    Sl k (w.alloc (.cells (zs.map (Value.int k)).toArray t fr)) (some ⟨w.heap.size, 0, none⟩) zs.length zs := by
  refine ⟨rfl, hwf, .inr ⟨w.heap.size, 0, rfl, ?_⟩⟩
  intro i hi
  have h := cell_of_row (w.alloc (.cells (zs.map (Value.int k)).toArray t fr)) w.heap.size i _ _ _ (heap_alloc_new w _)
  rw [Nat.zero_add, h]
  simp [hi]

theorem Addr.add_flat (b off i : Nat) : (⟨b, off, none⟩ : Addr).add i = ⟨b, off + i, none⟩ := by cases i <;> simp [Addr.add]

/-- The cut a[i:j]. -/
theorem Sl.cut {k : IntKind} {w : World} {a : Option Addr} {len cap : Nat} {zs : List Int} (h : Sl k w a len zs) (hc : len ≤ cap) (i j m : Nat) (hij : i ≤ j) (hj : j ≤ len) (hm : j ≤ m) :
    Sl k w (if m = i then a else a.map (·.add (i * 1))) (j - i) ((zs.take j).drop i) := by
  have hl := h.1
  refine ⟨by simp; omega, fun n hn => h.2.1 n (List.mem_of_mem_take (List.mem_of_mem_drop hn)), ?_⟩
  by_cases hlt : i < j
  · rcases h.2.2 with h0 | ⟨b, off, ha, hcell⟩
    · subst h0; simp at hl; omega
    · refine .inr ⟨b, off + i, ?_, ?_⟩
      · rw [if_neg (by omega), ha]; simp [Addr.add_flat]
      · intro t ht
        simp at ht
        rw [Nat.add_assoc, hcell (i + t) (by omega)]
        simp [List.getD_eq_getElem?_getD]
        rw [List.getElem?_take_of_lt (by omega)]
  · exact .inl (List.drop_eq_nil_of_le (by simp; omega))

/-- Where the cut a[i:..] begins, as the walk writes it. -/
abbrev cutA (a : Option Addr) (m i : Nat) : Option Addr := if m = i then a else Option.map (fun x => { block := x.block, off := x.off + i }) a

theorem Sl.cutA {k : IntKind} {w : World} {a : Option Addr} {len cap : Nat} {zs : List Int} (h : Sl k w a len zs) (hc : len ≤ cap) (i j m : Nat) (hij : i ≤ j) (hj : j ≤ len) (hm : j ≤ m) :
    Sl k w (cutA a m i) (j - i) ((zs.take j).drop i) := by
  have hl := h.1
  refine ⟨by simp; omega, fun n hn => h.2.1 n (List.mem_of_mem_take (List.mem_of_mem_drop hn)), ?_⟩
  by_cases hlt : i < j
  · rcases h.2.2 with h0 | ⟨b, off, ha, hcell⟩
    · subst h0; simp at hl; omega
    · refine .inr ⟨b, off + i, ?_, ?_⟩
      · rw [Go.Proofs.Ytmfmdicdbjghkaa.cutA, if_neg (by omega), ha]; simp
      · intro t ht
        simp at ht
        rw [Nat.add_assoc, hcell (i + t) (by omega)]
        simp [List.getD_eq_getElem?_getD]
        rw [List.getElem?_take_of_lt (by omega)]
  · exact .inl (List.drop_eq_nil_of_le (by simp; omega))

theorem Sl.cutB {k : IntKind} {w : World} {a : Option Addr} {len cap : Nat} {zs : List Int} (h : Sl k w a len zs) (hc : len ≤ cap) (i j L : Nat) (hij : i < j) (hj : j ≤ len) (hL : L = j - i) :
    Sl k w (Option.map (fun x => x.add i) a) L ((zs.take j).drop i) := by
  have := h.cut hc i j j (by omega) hj (Nat.le_refl _)
  rw [if_neg (by omega), Nat.mul_one] at this
  rw [hL]
  exact this

theorem Sl.cutI {k : IntKind} {w : World} {a : Option Addr} {len cap : Nat} {zs : List Int} (h : Sl k w a len zs) (hc : len ≤ cap) (i : Nat) (hi : i ≤ len) :
    Sl k w (if cap = i then a else Option.map (fun x => x.add i) a) (len - i) (zs.drop i) := by
  have := h.cut hc i len cap hi (Nat.le_refl _) hc
  rw [Nat.mul_one] at this
  rwa [List.take_of_length_le (by rw [← h.1]; exact Nat.le_refl _)] at this

theorem Sl.take {k : IntKind} {w : World} {a : Option Addr} {len : Nat} {zs : List Int} (h : Sl k w a len zs) (j : Nat) (hj : j ≤ len) : Sl k w a j (zs.take j) := by
  have hl := h.1
  refine ⟨by simp; omega, fun n hn => h.2.1 n (List.mem_of_mem_take hn), ?_⟩
  rcases h.2.2 with h0 | ⟨b, off, ha, hcell⟩
  · subst h0; exact .inl (by simp)
  · refine .inr ⟨b, off, ha, ?_⟩
    intro t ht
    simp at ht
    rw [hcell t (by omega)]
    simp [List.getD_eq_getElem?_getD]
    rw [List.getElem?_take_of_lt (by omega)]

theorem Sl.from {k : IntKind} {w : World} {a : Option Addr} {len cap : Nat} {zs : List Int} (h : Sl k w a len zs) (hc : len ≤ cap) (i : Nat) (hi : i ≤ len) :
    Sl k w (Go.Proofs.Ytmfmdicdbjghkaa.cutA a cap i) (len - i) (zs.drop i) := by
  have := h.cutA hc i len cap hi (Nat.le_refl _) hc
  rwa [List.take_of_length_le (by rw [← h.1]; exact Nat.le_refl _)] at this

/-- The text of a slice of bytes. -/
theorem Sl.text {P : Program} {w : World} {a : Option Addr} {len cap : Nat} {zs : List Int} (h : Sl .u8 w a len zs) (src dst e : TypeId) (hs : P.underlying src = some (.slice e)) (he : P.underlying e = some (.int .u8))
    (hd : P.underlying dst = some .string) : (convert src dst (.slice a len cap)).run P w = .ok (.string (strOfNums zs)) w := by
  have hl := h.1
  subst hl
  rcases h.2.2 with h0 | ⟨b, off, rfl, hc⟩
  · subst h0
    cases a with
    | none => rw [run_convert_bytes_nil w src e hs he _ _ dst hd]; rfl
    | some x =>
      have := run_convert_bytes_back (P := P) w src dst e x cap [] hs he hd (fun j hj => by simp at hj)
      exact this
  · exact run_convert_bytes_arg w src e hs he b off _ cap zs rfl hc dst hd

theorem own_below {w w' : World} {B : Nat} {T : TypeId} {size : Nat} {v : Value} {n : Nat} {xs : List Value} (h : w.ownsRow B T size v n xs) (k : Below w.heap.size w w') : w'.ownsRow B T size v n xs := by
  refine ⟨h.1, ?_⟩
  rcases h.2 with hn | ⟨g, cap, cur, hv, hb, hg, rest⟩
  · exact .inl hn
  · exact .inr ⟨g, cap, cur, hv, hb, (k.block g (lt_of_block hg)).trans hg, rest⟩
theorem own_base {w : World} {B B' : Nat} {T : TypeId} {size : Nat} {v : Value} {n : Nat} {xs : List Value} (h : w.ownsRow B T size v n xs) (k : B' ≤ B) : w.ownsRow B' T size v n xs := by
  refine ⟨h.1, ?_⟩
  rcases h.2 with hn | ⟨g, cap, cur, hv, hb, hg, rest⟩
  · exact .inl hn
  · exact .inr ⟨g, cap, cur, hv, by omega, hg, rest⟩
theorem own_some {w : World} {B : Nat} {T : TypeId} {size : Nat} {v : Value} {n : Nat} {xs : List Value} (h : w.ownsRow B T size v n xs) (hv : v ≠ .slice none 0 0) : ∃ g cap, v = .slice (some ⟨g, 0, none⟩) n cap := by
  rcases h.2 with hn | ⟨g, cap, cur, hv', _⟩
  · exact absurd hn.1 hv
  · exact ⟨g, cap, hv'⟩
theorem own_cap {w : World} {B : Nat} {T : TypeId} {size : Nat} {a : Option Addr} {len cap : Nat} {n : Nat} {xs : List Value} (h : w.ownsRow B T size (.slice a len cap) n xs) : len ≤ cap ∧ cap ≤ 9223372036854775807 := by
  rcases h.2 with ⟨hn, _⟩ | ⟨g, cap', cur, hv, _, _, h1, h2, _⟩
  · simp at hn; omega
  · simp at hv
    unfold maxLen at h2
    omega

/-- append of a slice of integers, whatever it is, onto nil or onto a slice that the call owns. -/
theorem wpList_append_sl {P : Program} {w : World} {ops : Array Oper} {rest : List Oper} {o : Oper} {a : Act} {Q : Exit → Act → World → Prop} (hgd : o.guard = none) (s x : Operand) (t : TypeId)
    (ho : o.op = .call { callee := .builtin .append, args := #[s, x], argTypes := #[t, t] })
    (base : Nat) (e : TypeId) (i : TypeInfo) (z : Value) (bytes : Nat) (ht : P.underlying t = some (.slice e)) (hi : P.info? e = some i) (hz : i.zero = some z)
    (hsize : i.size = 1) (hby : i.bytes = bytes) (hzs : z.cells.size = 1)
    (v : Value) (n : Nat) (xs : List Value) (hs : a.eval s = v) (hown : w.ownsRow base e 1 v n xs)
    (k : IntKind) (ad : Option Addr) (m c : Nat) (ys : List Int) (hx : a.eval x = .slice ad m c) (hS : Sl k w ad m ys) (hn : ad = none → c = 0)
    (h63 : n + m ≤ maxLen) (hbytes : (n + m) * bytes ≤ 140737488355328) (hbase : base ≤ w.heap.size)
    (h : ∀ v' w', w'.ownsRow base e 1 v' (n + m) (xs ++ ys.map (Value.int k)) → w.grownBy w' v.ownBlock → (v ≠ .slice none 0 0 → v' ≠ .slice none 0 0) → wpList P ops Q rest (a.put o.dst v') w') : wpList P ops Q (o :: rest) a w := by
  have hl := hS.1
  cases ad with
  | none =>
    have hys : ys = [] := by
      rcases hS.2.2 with h0 | ⟨b, off, ha, _⟩
      · exact h0
      · simp at ha
    subst hys
    simp at hl
    subst hl
    have hc := hn rfl
    subst hc
    refine wpList_append_own_none hgd s x t ho base e i 1 ht hi v n xs hs hown hx (h v w ?_ (World.grownBy.refl _ _) (fun h => h))
    simpa using hown
  | some ad =>
    refine wpList_append_own w hgd s x t ho base e i z 1 bytes ht hi hz hsize hby hzs (by decide) v n xs hs hown ad m c (ys.map (Value.int k)) hx (by simp; omega) ?_ ?_ h63 hbytes hbase ?_
    · intro j u hj
      have hjl : j < ys.length := by
        have := (List.getElem?_eq_some_iff.1 hj).1
        simpa using this
      rcases hS.2.2 with h0 | ⟨b, off, ha, hc⟩
      · subst h0; simp at hjl
      · simp at ha
        subst ha
        rw [Addr.add_flat, hc j hjl]
        simp [hjl] at hj
        rw [← hj]
        simp [List.getD_eq_getElem?_getD, hjl]
    · intro u hu
      obtain ⟨z, _, rfl⟩ := List.mem_map.1 hu
      rfl
    · intro v' w' h1 h2 h3
      exact h v' w' h1 h2 (fun hv hv' => hv (h3.1 hv').1)

theorem wf_i64 {n : Int} (h : IntKind.i64.wrap n = n) : -9223372036854775808 ≤ n ∧ n ≤ 9223372036854775807 := by rw [IntKind.wrap_i64] at h; omega
theorem wf_u8 {n : Int} (h : IntKind.u8.wrap n = n) : 0 ≤ n ∧ n ≤ 255 := by rw [IntKind.wrap_u8] at h; omega
theorem i64_wf {n : Int} (h0 : -9223372036854775808 ≤ n) (h1 : n ≤ 9223372036854775807) : IntKind.i64.wrap n = n := by rw [IntKind.wrap_i64]; omega
theorem u8_wf {n : Int} (h0 : 0 ≤ n) (h1 : n ≤ 255) : IntKind.u8.wrap n = n := by rw [IntKind.wrap_u8]; omega

theorem rt_int {k : IntKind} {a c : Int} (h : a = c) : Ending.returned (.int k a) = .returned (.int k c) := by rw [h]
theorem rt_bool {b d : Bool} (h : b = d) : Ending.returned (.bool b) = .returned (.bool d) := by rw [h]

theorem getD_mem {l : List Int} {i : Nat} (h : i < l.length) : l.getD i 0 ∈ l := by simp [List.getD_eq_getElem?_getD, h]

theorem take_snoc (l : List Int) (k : Nat) (h : k < l.length) : l.take (k + 1) = l.take k ++ [l.getD k 0] := by
  rw [List.take_succ_eq_append_getElem h]
  simp [h]

/-- Two texts of bytes are one just if the bytes are. -/
theorem strOfNums_inj {xs ys : List Int} (hx : ∀ n ∈ xs, IntKind.u8.wrap n = n) (hy : ∀ n ∈ ys, IntKind.u8.wrap n = n) (h : strOfNums xs = strOfNums ys) : xs = ys := by
  have h1 : (strOfNums xs).data.toList = (strOfNums ys).data.toList := by rw [h]
  rw [strOfNums_data, strOfNums_data] at h1
  clear h
  induction xs generalizing ys with
  | nil => cases ys with
    | nil => rfl
    | cons y ys => simp at h1
  | cons x xs ih => cases ys with
    | nil => simp at h1
    | cons y ys =>
      simp only [List.map_cons, List.cons.injEq] at h1
      have bx := wf_u8 (hx x (by simp))
      have bY := wf_u8 (hy y (by simp))
      have e : x = y := by
        have h2 := congrArg UInt8.toNat h1.1
        simp at h2
        omega
      rw [e, ih (fun n hn => hx n (by simp [hn])) (fun n hn => hy n (by simp [hn])) h1.2]

end Go.Proofs.Ytmfmdicdbjghkaa
