/-
  LogLast: what comes of Add, of Save, of opening anew; a script as the law is handed it; bytes of a text; append of rows inside a region that draws its order.
-/
import Derived.Test.YtdecdjjknbbolaaKnown6
import Derived.Test.YtdecdjjknbbolaaLogSpine
import Derived.Test.YtdecdjjknbbolaaRefRec
import Derived.Test.YtdecdjjknbbolaaRefScan
import Derived.Lib.ConvBytes
import Derived.Deep.RegionHeld3
namespace Go.Proofs.Ytdecdjjknbbolaa
open Go.RowKit
set_option linter.unusedVariables false
set_option linter.unusedSimpArgs false

theorem last_add {d : D} {g s : Int} {snap : List Int} {R : List (List Int)} (h : Held d g s snap R []) (hdn : d.dn = false) (n : Nat) (row : List Int) (hl : row.length ≤ 60000) :
    d.add ⟨g, s, n, false⟩ row = (10, d, ⟨g, s, n, false⟩) ∨
    (∃ d', d.add ⟨g, s, n, false⟩ row = (0, d', ⟨g, s, n + 1, false⟩) ∧ Held d' g s snap (R ++ [row]) [] ∧ d'.dn = false ∧ d'.room = d.room ∧ d'.ops = d.ops + 2) ∨
    (∃ d', d.add ⟨g, s, n, false⟩ row = (11, d', ⟨g, s, n, false⟩) ∧ d'.room = d.room ∧ (Held d'.fresh g s snap (R ++ [row]) [] ∨ ∃ tail, Held d'.fresh g s snap R tail)) := by
  rcases held_add h hdn n row hl with ⟨_, h1⟩ | ⟨_, h1, h2, h3, h4, h5, h6, h7⟩ | ⟨_, h1, h2, h3, h4, h5⟩
  · exact .inl h1
  · right; left
    refine ⟨(d.add ⟨g, s, n, false⟩ row).2.1, ?_, h3, h4, h5, h7⟩
    rw [← h1, ← h2]
  · right; right
    refine ⟨(d.add ⟨g, s, n, false⟩ row).2.1, Prod.ext h1 (Prod.ext rfl h2), h3, ?_⟩
    rcases h5 with h5 | ⟨tail, h5⟩
    · exact .inl h5.fresh
    · exact .inr ⟨tail, h5.fresh⟩

theorem last_save {d : D} {g s : Int} {snap : List Int} {R : List (List Int)} (h : Held d g s snap R []) (hdn : d.dn = false) (n : Nat) (new : List Int) (hl : new.length + 8 ≤ 60000) (hr : ((new.length + 10 : Nat) : Int) ≤ d.room) (hg : g + 1 ≤ 4611686018427387904) :
    (∃ d', d.resave ⟨g, s, n, false⟩ new = (0, d', ⟨g + 1, 1 - s, 0, false⟩) ∧ Held d' (g + 1) (1 - s) new [] [] ∧ d'.dn = false ∧ d'.room = d.room ∧ d'.ops = d.ops + 3) ∨
    (∃ d', d.resave ⟨g, s, n, false⟩ new = (11, d', ⟨g, s, n, false⟩) ∧ d'.room = d.room ∧ (Held d'.fresh (g + 1) (1 - s) new [] [] ∨ Held d'.fresh g s snap R [])) := by
  rcases held_save h hdn n false new hl hr hg with ⟨h1, h2, h3, h4, h5, h6, h7⟩ | ⟨_, h1, h2, h3, h4, h5⟩
  · left
    refine ⟨(d.resave ⟨g, s, n, false⟩ new).2.1, ?_, h3, h4, h5, h7⟩
    rw [← h1, ← h2]
  · right
    refine ⟨(d.resave ⟨g, s, n, false⟩ new).2.1, Prod.ext h1 (Prod.ext rfl h2), h3, ?_⟩
    rcases h5 with h5 | h5
    · exact .inl h5.fresh
    · exact .inr h5.fresh

/-- A deck that crashed and was restarted: opened anew, it is stale; saved, it goes on. -/
theorem last_again {d : D} {g s : Int} {snap : List Int} {R : List (List Int)} {tail : List Int} (h : Held d.fresh g s snap R tail) (hl : snap.length ≤ 40) (hr : d.room = 5000) (hg : g + 1 ≤ 4611686018427387904) :
    d.fresh.opened [] = (0, d.fresh, some ⟨g, s, R.length, true⟩, snap, R) ∧ ∃ d3, d.fresh.resave ⟨g, s, R.length, true⟩ snap = (0, d3, ⟨g + 1, 1 - s, 0, false⟩) ∧ Held d3 (g + 1) (1 - s) snap [] [] ∧ d3.dn = false ∧ d3.room = 5000 ∧ d3.ops = 3 := by
  refine ⟨held_open h [], ?_⟩
  obtain ⟨d3, h1, h2, h3, h4, h5, h6⟩ := held_save_ok h rfl rfl R.length true snap (by omega) (by show _ ≤ d.room; rw [hr]; omega) hg
  exact ⟨d3, h1, h2, h3, h4.trans hr, h6⟩

/-- What the walk is told of a script. -/
def Script (w : World) (a : Option Addr) (n : Nat) (K At Kp : Nat → Int) (A : Nat → Option Addr) (L C : Nat → Nat) (Z : Nat → List Int) : Prop :=
  n = 0 ∨ ∃ bb off, a = some ⟨bb, off, none⟩ ∧ bb < w.heap.size ∧ ∀ r, r < n →
    (w.cell? ⟨bb, off + r * 4, none⟩ = some (.int .i64 (K r)) ∧ w.cell? ⟨bb, off + r * 4 + 1, none⟩ = some (.slice (A r) (L r) (C r)) ∧
      w.cell? ⟨bb, off + r * 4 + 2, none⟩ = some (.int .i64 (At r)) ∧ w.cell? ⟨bb, off + r * 4 + 3, none⟩ = some (.int .i64 (Kp r))) ∧ Sl .u8 w (A r) (L r) (Z r) ∧ (A r = none → C r = 0) ∧ Kp r ≤ 9223372036854775807

theorem act_cells {w : World} {g : Nat} {v0 v1 v2 v3 : Value} {t : TypeId} (h : w.heap[g]? = some (.cells #[v0, v1, v2, v3] t (0, 0))) :
    w.cell? ⟨g, 0, none⟩ = some v0 ∧ w.cell? ⟨g, 1, none⟩ = some v1 ∧ w.cell? ⟨g, 2, none⟩ = some v2 ∧ w.cell? ⟨g, 3, none⟩ = some v3 :=
  ⟨cell_of_row w g 0 _ _ _ h, cell_of_row w g 1 _ _ _ h, cell_of_row w g 2 _ _ _ h, cell_of_row w g 3 _ _ _ h⟩

/-- The bytes of a text. -/
theorem bytes_of (w : World) (zs : List Int) (hb : Bs zs) : ∃ w' c, (convert 9 26 (.string (strOfNums zs))).run Try.prog w = .ok (.slice (some ⟨w.heap.size, 0, none⟩) zs.length c) w' ∧ Below w.heap.size w w' ∧ Sl .u8 w' (some ⟨w.heap.size, 0, none⟩) zs.length zs := by
  have h := Lib.run_convert_string_bytes (P := Try.prog) w 9 26 5 (strOfNums zs) Try.underlying9 Try.underlying26 Try.underlying5
  rw [strOfNums_size] at h
  refine ⟨_, _, h, ⟨?_, ?_, ?_, ?_, fun k hk => Lib.bytesWorld_at_old w _ _ k hk⟩, rfl, hb, .inr ⟨w.heap.size, 0, rfl, fun i hi => ?_⟩⟩
  · rfl
  · rfl
  · rfl
  · rw [Lib.bytesWorld_size]; omega
  · rw [Nat.zero_add, Lib.bytesWorld_cell w _ _ i (by rw [strOfNums_size]; exact hi), strOfNums_data]
    have hz := wf_u8 (hb (zs.getD i 0) (getD_mem hi))
    have e : (List.map (fun n => UInt8.ofNat n.toNat) zs).getD i 0 = UInt8.ofNat (zs.getD i 0).toNat := by simp [List.getD_eq_getElem?_getD, hi]
    rw [e]
    obtain ⟨y, hy⟩ : ∃ y, zs.getD i 0 = y := ⟨_, rfl⟩
    rw [hy] at hz ⊢
    have e2 : ((UInt8.ofNat y.toNat).toNat : Int) = y := by simp; omega
    rw [e2]

/-- append of values, as one step of a region that draws, where its guard wants it. -/
theorem stepg_append {P : Program} {w : World} {ops : Array Oper} {o : Oper} {a : Act} {K : Act → World → Prop} {Q : Exit → Act → World → Prop} {E : Prop} (hw : Region.wanted o (yielded ops a.tmps) = true) (s x : Operand) (t : TypeId)
    (ho : o.op = .call { callee := .builtin .append, args := #[s, x], argTypes := #[t, t] })
    (base : Nat) (e : TypeId) (i : TypeInfo) (z : Value) (bytes : Nat) (ht : P.underlying t = some (.slice e)) (hi : P.info? e = some i) (hz : i.zero = some z)
    (hsize : i.size = 1) (hby : i.bytes = bytes) (hzs : z.cells.size = 1) (v : Value) (n : Nat) (xs : List Value) (hs : a.eval s = v) (hown : w.ownsRow base e 1 v n xs)
    (ad : Option Addr) (m c : Nat) (news : List Value) (hx : a.eval x = .slice ad m c) (hl : news.length = m) (hn : ad = none → c = 0) (hn0 : ad = none → m = 0) (hc : ∀ y, ad = some y → ∀ j u, news[j]? = some u → w.cell? (y.add j) = some u) (h1c : ∀ u ∈ news, u.oneCell' = true)
    (h63 : n + m ≤ maxLen) (hbytes : (n + m) * bytes ≤ 140737488355328) (hbase : base ≤ w.heap.size)
    (h : ∀ v' w', w'.ownsRow base e 1 v' (n + m) (xs ++ news) → w.grownBy w' v.ownBlock → K (a.put o.dst v') w') :
    if Region.wanted o (yielded ops a.tmps) = true then Oper.wp P o a w K Q else E := by
  rw [if_pos hw]
  have hrun : ∃ v' w', (Builtin.append_ #[t, t] o.type #[v, .slice ad m c]).run P w = .ok v' w' ∧ w'.ownsRow base e 1 v' (n + m) (xs ++ news) ∧ w.grownBy w' v.ownBlock := by
    cases ad with
    | none =>
      have h0 := hn rfl
      have h1 := hn0 rfl
      subst h0 h1
      have : news = [] := List.length_eq_zero_iff.1 hl
      subst this
      exact ⟨v, w, run_append_owned_none w base t o.type e i 1 ht hi v n xs hown, by simpa using hown, World.grownBy.refl _ _⟩
    | some ad =>
      obtain ⟨v', w', hr, h1, h2, _⟩ := run_append_own w base t o.type e i z 1 bytes ht hi hz hsize hby hzs (by decide) v n xs hown ad m c news (by omega) (hc ad rfl) h1c h63 hbytes hbase
      exact ⟨v', w', hr, h1, h2⟩
  obtain ⟨v', w', hrun, h1, h2⟩ := hrun
  unfold Oper.wp
  simp [execOp, ho, resolve, invoke, builtin, hs, hx, hrun, Result.andThen]
  exact h v' w' h1 h2

end Go.Proofs.Ytdecdjjknbbolaa
