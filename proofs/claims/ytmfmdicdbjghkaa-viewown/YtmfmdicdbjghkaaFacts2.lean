/-
  More dues of the operations of a region that draws its order (Facts): values that the walk's own rules tell, slices made, slices put behind one another; the frame behind, slot by slot.
-/
import Derived.Test.YtmfmdicdbjghkaaFacts
import Derived.ArgAppend
namespace Go.Proofs.Ytmfmdicdbjghkaa
open Go.RowKit
set_option linter.unusedVariables false

/-- A slice of these integers that is not nil. -/
def Fact.has (k : IntKind) (n : Nat) (zs : List Int) : Fact :=
  ⟨fun w v => ∃ a c, v = .slice (some a) n c ∧ Sl k w (some a) n zs ∧ n ≤ c ∧ c ≤ 9223372036854775807, fun _ _ _ hb ⟨a, c, h1, h2, h3⟩ => ⟨a, c, h1, h2.below hb, h3⟩⟩
/-- A slice of these integers with no room behind. -/
def Fact.full (k : IntKind) (n : Nat) (zs : List Int) : Fact :=
  ⟨fun w v => ∃ b, v = .slice (some ⟨b, 0, none⟩) n n ∧ Sl k w (some ⟨b, 0, none⟩) n zs, fun _ _ _ hb ⟨b, h1, h2⟩ => ⟨b, h1, h2.below hb⟩⟩

theorem Sl.cells {k : IntKind} {w : World} {ad : Addr} {n : Nat} {zs : List Int} (h : Sl k w (some ad) n zs) : ∀ j u, (zs.map (Value.int k))[j]? = some u → w.cell? (ad.add j) = some u := by
  intro j u hj
  have hjl : j < zs.length := by
    have := (List.getElem?_eq_some_iff.1 hj).1
    simpa using this
  rcases h.2.2 with h0 | ⟨b, off, ha, hc⟩
  · subst h0; simp at hjl
  · simp at ha
    subst ha
    rw [Addr.add_flat, hc j hjl]
    simp [hjl] at hj
    rw [← hj]
    simp [List.getD_eq_getElem?_getD, hjl]

section
variable {P : Program} {L : List Fact} {T : List Nat} {Q : Exit → Act → World → Prop} {a0 : Act} {w0 : World} {i : Nat} {o : Oper}

/-- An operation that makes memory. -/
theorem owes_make (h : ∀ a w, Leans L T a0 w0 o a w → Wants T o a ∧ ∃ v w', (execOp a.eval o).run P w = .ok (.value v) w' ∧ Below w.heap.size w w' ∧ (L.getD i Fact.any).1 w' v) : OwesT P Q L T a0 w0 i o := by
  intro a w h1 h2 h3
  obtain ⟨hg, v, w', hr, hb, hf⟩ := h a w ⟨h1, h2, h3⟩
  refine .inl ⟨hg, ?_⟩
  unfold Oper.wp
  rw [hr]
  exact ⟨hb, v, rfl, hf⟩

/-- One slice put behind another one that has no room. -/
theorem owes_append (t e : TypeId) (x y jx jy n m : Nat) (k : IntKind) (inf : TypeInfo) (z : Value) (bytes : Nat) (xs ys : List Int) (ho : o.op = .call { callee := .builtin .append, args := #[.tmp x, .tmp y], argTypes := #[t, t] })
    (hx : T.getD jx 0 = x) (hdx : (o.after.toList.any fun e => e.on == jx && Region.binds .any e) = true) (hfx : L.getD jx Fact.any = Fact.full k n xs)
    (hy : T.getD jy 0 = y) (hdy : (o.after.toList.any fun e => e.on == jy && Region.binds .any e) = true) (hfy : L.getD jy Fact.any = Fact.has k m ys)
    (hL : L.getD i Fact.any = Fact.has k (n + m) (xs ++ ys))
    (ht : P.underlying t = some (.slice e)) (hi : P.info? e = some inf) (hz : inf.zero = some z) (hsize : inf.size = 1) (hby : inf.bytes = bytes) (hzs : z.cells.size = 1)
    (h63 : n + m ≤ maxLen) (hbytes : (n + m) * bytes ≤ 140737488355328) (hmax : maxLen ≤ 9223372036854775807) (hw : ∀ a w, Leans L T a0 w0 o a w → Wants T o a) : OwesT P Q L T a0 w0 i o := by
  refine owes_make fun a w hl => ⟨hw a w hl, ?_⟩
  have vx := hl.dep jx hdx
  rw [hfx, hx] at vx
  obtain ⟨b, vx, sx⟩ := vx
  have vy := hl.dep jy hdy
  rw [hfy, hy] at vy
  obtain ⟨ad, c, vy, sy, hmc, _⟩ := vy
  have lx := sx.1
  have ly := sy.1
  have wf : ∀ z ∈ xs ++ ys, k.wrap z = z := fun z hz => by
    rcases List.mem_append.mp hz with hz | hz
    · exact sx.2.1 z hz
    · exact sy.2.1 z hz
  have ex : a.eval (.tmp x) = .slice (some ⟨b, 0, none⟩) n n := vx
  have ey : a.eval (.tmp y) = .slice (some ad) m c := vy
  rw [hL]
  by_cases h0 : m = 0
  · subst h0
    obtain rfl : ys = [] := List.length_eq_zero_iff.mp ly.symm
    have hrun := run_append_room_cells (P := P) w t o.type e inf ht hi b 0 n n ad 0 c [] (by simp) (fun j u hj => by simp at hj) (fun u hu => by simp at hu) (by omega) (fun j hj => by simp at hj) (fun j hj => by simp at hj)
    refine ⟨.slice (some ⟨b, 0, none⟩) n n, w, ?_, Below.refl _ _, ?_⟩
    · simp [execOp, ho, resolve, invoke, builtin, ex, ey, hrun, Result.andThen]
      rfl
    · refine ⟨⟨b, 0, none⟩, n, rfl, ?_, by omega, by omega⟩
      simpa using sx
  · obtain ⟨v', w', hrun, r1, r2⟩ := run_append_arg_grows (P := P) w t o.type e inf z 1 bytes ht hi hz hsize hby hzs (by decide) ⟨b, 0, none⟩ n n (xs.map (Value.int k)) (by simp; omega) sx.cells ad m c (ys.map (Value.int k)) (by simp; omega) sy.cells (by omega) h63 hbytes
    refine ⟨v', w', ?_, ?_, ?_⟩
    · simp [execOp, ho, resolve, invoke, builtin, ex, ey, hrun, Result.andThen]
    · exact (Below.refl _ _).grown r2 (Nat.le_refl _) (fun k hk => by simp at hk)
    · rw [← List.map_append] at r1
      obtain ⟨a', c', rfl, s', hn'⟩ := Sl.own r1 wf
      have hlen : (xs ++ ys).length = n + m := by simp; omega
      rw [hlen] at s' r1 ⊢
      obtain ⟨hc1, hc2⟩ := own_cap r1
      cases a' with
      | none =>
        have := hn' rfl
        omega
      | some a' => exact ⟨a', c', rfl, s', hc1, hc2⟩
end

end Go.Proofs.Ytmfmdicdbjghkaa
