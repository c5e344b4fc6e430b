/-
  A script as LogLast is handed it.
-/
import Derived.Test.YtdecdjjknbbolaaWalkLast
import Derived.Test.YtdecdjjknbbolaaArgs
import Derived.ProofKit
import Derived.OpenShut
import Derived.ChangeOld
import Derived.Deep.Slices
namespace Go.Proofs.Ytdecdjjknbbolaa
open Go.ChangeShapes Go.WideShapes Go.ChangeAt Go.RowKit
set_option linter.unusedVariables false
set_option linter.unusedSimpArgs false

section
variable {H : Type} {enc : TypeId × Value → H} {W : World} {base : Nat}

theorem one_int {fuel : Nat} {cs : List Value} {x : DataW H × List MemPlace} (h : DataW.trod enc Try.prog W base (fun _ => true) true fuel 3 cs = some x) : ∃ m, cs = [.int .i64 m] ∧ (Lit.int .i64 m).wf = true := by
  cases fuel with
  | zero => simp [DataW.trod] at h
  | succ n =>
    unfold DataW.trod at h
    rw [Try.underlying3] at h
    split at h <;> simp_all

theorem two_ints {fuel : Nat} {cs : List Value} {x : DataW H × List MemPlace} (h : DataW.trod enc Try.prog W base (fun _ => true) true fuel 32 cs = some x) :
    ∃ p q, cs = [.int .i64 p, .int .i64 q] ∧ (Lit.int .i64 q).wf = true := by
  obtain ⟨xs, n, _, _, hl, hx, hf⟩ := DataW.trod_struct Try.underlying32 h
  have c1 : Try.prog.cellsOf 3 = 1 := by kernel_rfl
  have c2 : Try.prog.cellsOf 32 = 2 := by kernel_rfl
  rw [c2] at hl
  match cs, hl with
  | [v0, v1], _ =>
    match xs, hx with
    | [x0, x1], _ =>
      have f0 : DataW.trod enc Try.prog W base (fun _ => true) true n 3 ((([v0, v1] : List Value).drop 0).take (Try.prog.cellsOf 3)) = some x0 := hf 0 _ rfl
      rw [c1] at f0
      have f1 : DataW.trod enc Try.prog W base (fun _ => true) true n 3 ((([v0, v1] : List Value).drop 1).take (Try.prog.cellsOf 3)) = some x1 := hf 1 _ rfl
      rw [c1] at f1
      obtain ⟨p, hp, _⟩ := one_int f0
      obtain ⟨q, hq, hw⟩ := one_int f1
      simp at hp hq
      exact ⟨p, q, by rw [hp, hq], hw⟩

/-- The cells of an act. -/
theorem open_act {fuel : Nat} {cs : List Value} {x : DataW H × List MemPlace} (h : DataW.trod enc Try.prog W base (fun _ => true) true fuel 34 cs = some x) :
    ∃ kk a l c zs tt kp, cs = [.int .i64 kk, .slice a l c, .int .i64 tt, .int .i64 kp] ∧ Walk.IsRow .u8 W a l c zs ∧ (Lit.int .i64 kp).wf = true := by
  obtain ⟨xs, n, _, _, hl, hx, hf⟩ := DataW.trod_struct Try.underlying34 h
  have c1 : Try.prog.cellsOf 3 = 1 := by kernel_rfl
  have c2 : Try.prog.cellsOf 32 = 2 := by kernel_rfl
  have c3 : Try.prog.cellsOf 26 = 1 := by kernel_rfl
  have c4 : Try.prog.cellsOf 34 = 4 := by kernel_rfl
  rw [c4] at hl
  match cs, hl with
  | [v0, v1, v2, v3], _ =>
    match xs, hx with
    | [x0, x1, x2], _ =>
      have f0 : DataW.trod enc Try.prog W base (fun _ => true) true n 3 ((([v0, v1, v2, v3] : List Value).drop 0).take (Try.prog.cellsOf 3)) = some x0 := hf 0 _ rfl
      rw [c1] at f0
      have f2 : DataW.trod enc Try.prog W base (fun _ => true) true n 26 ((([v0, v1, v2, v3] : List Value).drop 1).take (Try.prog.cellsOf 26)) = some x1 := hf 1 _ rfl
      rw [c3] at f2
      have f3 : DataW.trod enc Try.prog W base (fun _ => true) true n 32 ((([v0, v1, v2, v3] : List Value).drop 2).take (Try.prog.cellsOf 32)) = some x2 := hf 2 _ rfl
      rw [c2] at f3
      obtain ⟨kk, hkk, _⟩ := one_int f0
      obtain ⟨tt, kp, ht, hw⟩ := two_ints f3
      simp at hkk ht
      rcases open_ints Try.underlying26 Try.underlying5 (by kernel_rfl) f2 with ⟨hcs, _⟩ | ⟨y, l, c, zs, hcs, _, hl', hm, hz, _, hcell, hwz⟩
      · simp at hcs
        exact ⟨kk, none, 0, 0, [], tt, kp, by rw [hkk, hcs, ht.1, ht.2], .inl ⟨rfl, rfl, rfl, rfl⟩, hw⟩
      · simp at hcs
        exact ⟨kk, some y, l, c, zs, tt, kp, by rw [hkk, hcs, ht.1, ht.2], .inr ⟨_, rfl, hl', hm, by simpa using hz, hcell, hwz⟩, hw⟩

/-- A script opened. -/
theorem open_script {fuel : Nat} {a : Option Addr} {len cap : Nat} {x : DataW H × List MemPlace} (h : DataW.trod enc Try.prog W base (fun _ => true) true fuel 22 [.slice a len cap] = some x) :
    ∃ K At Kp A L C Z, Script W a len K At Kp A L C Z := by
  have c4 : Try.prog.cellsOf 34 = 4 := by kernel_rfl
  rcases Go.Deep.open_slice Try.underlying22 h with ⟨hcs, _⟩ | ⟨ad, len', cap', m, n, D, Pl, hcs, _, hl, hm, hmm, _, hel⟩
  · simp at hcs
    exact ⟨fun _ => 0, fun _ => 0, fun _ => 0, fun _ => none, fun _ => 0, fun _ => 0, fun _ => [], .inl hcs.2.1⟩
  · simp at hcs
    obtain ⟨rfl, rfl, rfl⟩ := hcs
    simp only [if_true] at hmm
    subst hmm
    rw [c4] at hel
    have hall : ∀ i, ∃ p : (Int × Option Addr) × (Nat × Nat × List Int) × Int × Int, i < len → (∃ cs', W.cells? base (ad.add (i * 4)) 4 = some cs' ∧ cs' = [.int .i64 p.1.1, .slice p.1.2 p.2.1.1 p.2.1.2.1, .int .i64 p.2.2.1, .int .i64 p.2.2.2]) ∧ Walk.IsRow .u8 W p.1.2 p.2.1.1 p.2.1.2.1 p.2.1.2.2 ∧ (Lit.int .i64 p.2.2.2).wf = true := by
      intro i
      by_cases hi : i < len
      · obtain ⟨cs', h1, h2⟩ := hel i (by omega)
        obtain ⟨kk, a, l, c, zs, tt, kp, h3, h4, h5⟩ := open_act h2
        exact ⟨((kk, a), (l, c, zs), tt, kp), fun _ => ⟨⟨cs', h1, h3⟩, h4, h5⟩⟩
      · exact ⟨((0, none), (0, 0, []), 0, 0), fun h => absurd h hi⟩
    by_cases h0 : len = 0
    · exact ⟨fun _ => 0, fun _ => 0, fun _ => 0, fun _ => none, fun _ => 0, fun _ => 0, fun _ => [], .inl h0⟩
    · obtain ⟨f, hq⟩ := Classical.axiomOfChoice hall
      obtain ⟨K, hK⟩ : ∃ K, K = fun i => (f i).1.1 := ⟨_, rfl⟩
      obtain ⟨A, hA⟩ : ∃ K, K = fun i => (f i).1.2 := ⟨_, rfl⟩
      obtain ⟨L, hL⟩ : ∃ K, K = fun i => (f i).2.1.1 := ⟨_, rfl⟩
      obtain ⟨C, hC⟩ : ∃ K, K = fun i => (f i).2.1.2.1 := ⟨_, rfl⟩
      obtain ⟨Z, hZ⟩ : ∃ K, K = fun i => (f i).2.1.2.2 := ⟨_, rfl⟩
      obtain ⟨T, hT⟩ : ∃ K, K = fun i => (f i).2.2.1 := ⟨_, rfl⟩
      obtain ⟨Kp, hKp⟩ : ∃ K, K = fun i => (f i).2.2.2 := ⟨_, rfl⟩
      have hq : ∀ i, i < len → (∃ cs', W.cells? base (ad.add (i * 4)) 4 = some cs' ∧ cs' = [.int .i64 (K i), .slice (A i) (L i) (C i), .int .i64 (T i), .int .i64 (Kp i)]) ∧ Walk.IsRow .u8 W (A i) (L i) (C i) (Z i) ∧ (Lit.int .i64 (Kp i)).wf = true := by
        subst hK hA hL hC hZ hT hKp
        exact hq
      have hcell : ∀ i, i < len → ∀ j, j < 4 → W.cell? ((ad.add (i * 4)).add j) = ([Value.int .i64 (K i), .slice (A i) (L i) (C i), .int .i64 (T i), .int .i64 (Kp i)] : List Value)[j]? := by
        intro i hi j hj
        obtain ⟨⟨cs', h1, h2⟩, _⟩ := hq i hi
        rw [← h2]
        exact (World.cells?_some h1).2.2 j hj
      obtain ⟨b, off, spot⟩ := ad
      have hs0 := hcell 0 (by omega) 0 (by omega)
      have hspot : spot = none := by
        have := hs0
        simp [Addr.add] at this
        exact World.cell?_spot this
      subst hspot
      have hb : b < W.heap.size := by
        have := hs0
        simp only [Addr.add_flat] at this
        exact block_lt_of_cell (by simpa using this)
      refine ⟨K, T, Kp, A, L, C, fun i => (Z i).take (L i), .inr ⟨b, off, rfl, hb, fun r hr => ?_⟩⟩
      obtain ⟨_, hrow, hw⟩ := hq r hr
      have g := fun j hj => hcell r hr j hj
      simp only [Addr.add_flat] at g
      obtain ⟨hS, hc, hm'⟩ := hrow.sl Walk.wf_u8'
      refine ⟨⟨by simpa using g 0 (by omega), by simpa using g 1 (by omega), by simpa using g 2 (by omega), by simpa using g 3 (by omega)⟩, hS, ?_, (wf_i64 (Walk.wf_i64' _ hw)).2⟩
      rcases hrow with ⟨h1, h2, h3, _⟩ | ⟨x, h1, _⟩
      · exact fun _ => h3
      · intro h; rw [h1] at h; simp at h
end

end Go.Proofs.Ytdecdjjknbbolaa
