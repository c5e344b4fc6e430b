/-
  The contracts of word's and giroref2's Get and Next in one form each, over this seat's program; what a walk is told of a slice that came in.
-/
import Derived.Test.YtaifnlfebdochaaWordGet
import Derived.Test.YtaifnlfebdochaaWordRef
namespace Go.Proofs.Ytaifnlfebdochaa
open Go.RowKit
set_option linter.unusedVariables false

/-- The numbers of bytes, and the error. -/
def getS (bs : List Int) : List Int × Int := if bs.length % 8 = 0 then (decs (bs.length / 8) bs, 0) else ([], 2)

def GetAll (w : World) (bs : List Int) (e : Ending) (w' : World) : Prop :=
  ∃ a cap, e = .returned (.tuple #[.slice a (getS bs).1.length cap, .int .i64 (getS bs).2]) ∧ Sl .i64 w' a (getS bs).1.length (getS bs).1 ∧ Below w.heap.size w w'

theorem getAll_good (w : World) (m : Nat) (bs : List Int) (h : 8 * m = bs.length) (e : Ending) (w' : World) (hh : GetEnd w m bs e w') : GetAll w bs e w' := by
  obtain ⟨v, rfl, hown, bel⟩ := hh
  have e1 : getS bs = (decs m bs, 0) := by unfold getS; rw [if_pos (by omega), show bs.length / 8 = m by omega]
  obtain ⟨a, cap, rfl, hS, _⟩ := Sl.own (ys := decs m bs) hown (decs_wf m bs)
  exact ⟨a, cap, by rw [e1], by rw [e1]; exact hS, bel⟩

theorem getAll_bad (w : World) (bs : List Int) (h : ¬ bs.length % 8 = 0) : GetAll w bs (.returned (.tuple #[.slice none 0 0, .int .i64 2])) w := by
  have e1 : getS bs = ([], 2) := by unfold getS; rw [if_neg h]
  exact ⟨none, 0, by rw [e1]; rfl, by rw [e1]; exact Sl.nil _ _ _, Below.refl _ _⟩

/-- Get. -/
theorem get_any (a : Option Addr) (len cap : Nat) (bs : List Int) (w : World) (h : Sl .u8 w a len bs) (hcap : len ≤ cap) (hmx : cap ≤ 9223372036854775807) (hreach : len ≤ 140737488355328) :
    Calls Try.prog 28 #[.slice a len cap] w (GetAll w bs) := by
  have hl := h.1
  by_cases h8 : len % 8 = 0
  · exact (get_good a len cap (len / 8) bs w h (by omega) hcap hmx hreach).mono (getAll_good w _ bs (by omega))
  · refine (get_bad a len cap w h8 (by omega)).mono ?_
    rintro e w' ⟨rfl, rfl⟩
    exact getAll_bad _ bs (by omega)
theorem refGet_any (a : Option Addr) (len cap : Nat) (bs : List Int) (w : World) (h : Sl .u8 w a len bs) (hcap : len ≤ cap) (hmx : cap ≤ 9223372036854775807) (hreach : len ≤ 140737488355328) :
    Calls Try.prog 29 #[.slice a len cap] w (GetAll w bs) := by
  have hl := h.1
  by_cases h8 : len % 8 = 0
  · exact (refGet_good a len cap (len / 8) bs w h (by omega) hcap hmx hreach).mono (getAll_good w _ bs (by omega))
  · refine (refGet_bad a len cap w h8 (by omega)).mono ?_
    rintro e w' ⟨rfl, rfl⟩
    exact getAll_bad _ bs (by omega)


namespace Walk

/-- A slice of integers that came in: nil, or a row of cells. -/
def IsRow (k : IntKind) (w : World) (a : Option Addr) (len cap : Nat) (zs : List Int) : Prop :=
  (a = none ∧ len = 0 ∧ cap = 0 ∧ zs = []) ∨
  ∃ x, a = some x ∧ len ≤ cap ∧ cap ≤ maxLen ∧ zs.length = cap ∧ (∀ i, i < zs.length → w.cell? (x.add i) = some (.int k (zs.getD i 0))) ∧ ∀ n ∈ zs, (Lit.int k n).wf = true

theorem IsRow.sl {k : IntKind} {w : World} {a : Option Addr} {len cap : Nat} {zs : List Int} (h : IsRow k w a len cap zs) (hk : ∀ n, (Lit.int k n).wf = true → k.wrap n = n) :
    Sl k w a len (zs.take len) ∧ len ≤ cap ∧ cap ≤ 9223372036854775807 := by
  rcases h with ⟨rfl, rfl, rfl, rfl⟩ | ⟨x, rfl, hl, hm, hz, hcell, hwz⟩
  · exact ⟨Sl.nil _ _ _, by omega, by omega⟩
  · unfold maxLen at hm
    refine ⟨⟨by simp; omega, fun n hn => hk n (hwz n (List.mem_of_mem_take hn)), ?_⟩, hl, by omega⟩
    by_cases h0 : len = 0
    · subst h0; exact .inl (by simp)
    · obtain ⟨b, off, spot⟩ := x
      have hs := hcell 0 (by omega)
      have hspot : spot = none := by simpa [Addr.add] using World.cell?_spot hs
      subst hspot
      refine .inr ⟨b, off, rfl, ?_⟩
      intro i hi
      simp at hi
      have h := hcell i (by omega)
      rw [Addr.add_flat] at h
      rw [h]
      simp [List.getD_eq_getElem?_getD]
      rw [List.getElem?_take_of_lt (by omega)]

theorem wf_u8' (n : Int) (h : (Lit.int .u8 n).wf = true) : IntKind.u8.wrap n = n := by
  simp only [Lit.wf, Bool.and_eq_true, decide_eq_true_eq] at h
  refine u8_wf ?_ ?_
  · exact h.1
  · exact h.2
theorem wf_i64' (n : Int) (h : (Lit.int .i64 n).wf = true) : IntKind.i64.wrap n = n := by
  simp only [Lit.wf, Bool.and_eq_true, decide_eq_true_eq] at h
  refine i64_wf ?_ ?_
  · exact h.1
  · exact h.2

end Walk
end Go.Proofs.Ytaifnlfebdochaa
