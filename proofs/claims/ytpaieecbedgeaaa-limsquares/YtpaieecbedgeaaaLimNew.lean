/-
  Books in new memory; facts of what is made in a region that draws.
-/
import Derived.Test.YtpaieecbedgeaaaLimBooks
import Derived.Test.YtpaieecbedgeaaaLimAccs
import Derived.Test.YtpaieecbedgeaaaLimRefRows
import Derived.Test.YtpaieecbedgeaaaFactsEnd
namespace Go.Proofs.Ytpaieecbedgeaaa
open Go.RowKit
set_option linter.unusedVariables false
set_option linter.unusedSimpArgs false

/-- Books that lie in blocks from B on, made by the call. -/
structure NewBk (w : World) (B : Nat) (x : BA) (b : Bks) : Prop where
  acc : w.ownsRow B 34 3 (.slice x.aA x.nA x.cA) b.A.length (accL b.A)
  bil : ∃ vs, MadeI w B (.slice x.aB x.nB x.cB) vs b.B
  mul : w.ownsRow B 2 1 (.slice x.aM x.nM x.cM) b.M.length (b.M.map (Value.int .i64))
  pos : ∃ vs, MadeI w B (.slice x.aP x.nP x.cP) vs b.P
  wf : W64 b.M
theorem NewBk.below {w w' : World} {B : Nat} {x : BA} {b : Bks} (h : NewBk w B x b) (k : Below w.heap.size w w') : NewBk w' B x b :=
  ⟨own_below h.acc k, h.bil.imp fun _ h => h.below k, own_below h.mul k, h.pos.imp fun _ h => h.below k, h.wf⟩
theorem NewBk.kept {w w' : World} {B : Nat} {x : BA} {b : Bks} (h : NewBk w B x b) (k : Kept (fun n => B ≤ n) w w') : NewBk w' B x b :=
  ⟨own_kept h.acc k, h.bil.imp fun _ h => h.kept k, own_kept h.mul k, h.pos.imp fun _ h => h.kept k, h.wf⟩
theorem NewBk.base {w : World} {B B' : Nat} {x : BA} {b : Bks} (h : NewBk w B x b) (k : B' ≤ B) : NewBk w B' x b :=
  ⟨own_base h.acc k, h.bil.imp fun _ h => h.base k, own_base h.mul k, h.pos.imp fun _ h => h.base k, h.wf⟩

theorem short_made {w : World} {B : Nat} {v : Value} {vs : List Value} {R : List (List Int)} (h : MadeI w B v vs R) : Short R := by
  intro z hz
  obtain ⟨i, hi, he⟩ := List.getElem_of_mem hz
  have hr := h.row i hi
  have e : R.getD i [] = z := by simp [hi, he]
  rw [e] at hr
  rcases hr.2 with ⟨_, h0⟩ | ⟨g, cap, cur, _, _, _, h1, h2, _⟩
  · omega
  · unfold maxLen at h2; omega

theorem own_len {w : World} {B s n' : Nat} {T : TypeId} {a : Option Addr} {n c : Nat} {xs : List Value} (h : w.ownsRow B T s (.slice a n c) n' xs) : n = n' ∧ n ≤ 9223372036854775807 ∧ (a = none → c = 0) := by
  rcases h.2 with ⟨hv, h0⟩ | ⟨g, cap, cur, hv, _, _, h1, h2, _⟩
  · simp at hv; exact ⟨by omega, by omega, fun _ => hv.2.2⟩
  · simp at hv; unfold maxLen at h2; exact ⟨hv.2.1, by omega, fun h => by rw [hv.1] at h; simp at h⟩

theorem NewBk.bk {w : World} {B : Nat} {x : BA} {b : Bks} (h : NewBk w B x b) : Bk w x b := by
  obtain ⟨vb, hb⟩ := h.bil
  obtain ⟨vp, hp⟩ := h.pos
  obtain ⟨lA, mA, oA⟩ := own_len h.acc
  obtain ⟨lM, mM, oM⟩ := own_len h.mul
  obtain ⟨_, mB, _⟩ := own_len hb.own
  obtain ⟨_, mP, _⟩ := own_len hp.own
  refine ⟨?_, hb.read, ?_, hp.read, mA, mB, mM, mP, short_made hb, short_made hp, oA, oM⟩
  · obtain ⟨a, c, hv, ha, _⟩ := Accs.own h.acc
    simp at hv
    rw [hv.1, hv.2.1]
    exact ha
  · obtain ⟨a, c, hv, ha, _⟩ := Sl.own h.mul h.wf
    simp at hv
    rw [hv.1, hv.2.1]
    exact ha

/-- Not too much to be copied. -/
structure Small (b : Bks) : Prop where
  A : b.A.length ≤ 1000000
  B : b.B.length ≤ 1000000
  M : b.M.length ≤ 1000000
  P : b.P.length ≤ 1000000
  rB : ∀ z ∈ b.B, z.length ≤ 1000000
  rP : ∀ z ∈ b.P, z.length ≤ 1000000

def Fact.ownR (B : Nat) (e : TypeId) (s n : Nat) (cs : List Value) : Fact := ⟨fun w v => w.ownsRow B e s v n cs, fun _ _ _ hb h => own_below h hb⟩
def Fact.lit0 (B : Nat) (e : TypeId) (s : Nat) : Fact := ⟨fun w v => ∃ b, v = .slice (some ⟨b, 0, none⟩) 0 0 ∧ w.ownsRow B e s v 0 [], fun _ _ _ hb ⟨b, h1, h2⟩ => ⟨b, h1, own_below h2 hb⟩⟩
def Fact.rows64 (B : Nat) (R : List (List Int)) : Fact := ⟨fun w v => ∃ vs, MadeI w B v vs R, fun _ _ _ hb ⟨vs, h⟩ => ⟨vs, h.below hb⟩⟩
def Fact.books (B : Nat) (b : Bks) : Fact := ⟨fun w v => ∃ x : BA, v = x.val ∧ NewBk w B x b, fun _ _ _ hb ⟨x, h1, h2⟩ => ⟨x, h1, h2.below hb⟩⟩

theorem accs_fact {f : FuncId} {args : Array Value} {w : World} {A : List A3} {B : Nat} (hB : B ≤ w.heap.size) (h : Calls Try.prog f args w (AccsEnd w A)) :
    Calls Try.prog f args w fun e w' => ∃ v, e = .returned v ∧ Below w.heap.size w w' ∧ (Fact.ownR B 34 3 A.length (accL A)).1 w' v :=
  h.mono fun e w' ⟨v, h1, h2, h3⟩ => ⟨v, h1, h3, own_base h2 hB⟩
theorem row_fact {f : FuncId} {args : Array Value} {w : World} {zs : List Int} {B : Nat} (hB : B ≤ w.heap.size) (h : Calls Try.prog f args w (RowEnd w zs)) :
    Calls Try.prog f args w fun e w' => ∃ v, e = .returned v ∧ Below w.heap.size w w' ∧ (Fact.ownR B 2 1 zs.length (zs.map (Value.int .i64))).1 w' v :=
  h.mono fun e w' ⟨v, h1, h2, _, h3⟩ => ⟨v, h1, h3, own_base h2 hB⟩
theorem rows_fact {f : FuncId} {args : Array Value} {w : World} {R : List (List Int)} {B : Nat} (hB : B ≤ w.heap.size) (h : Calls Try.prog f args w (RowsEnd w R)) :
    Calls Try.prog f args w fun e w' => ∃ v, e = .returned v ∧ Below w.heap.size w w' ∧ (Fact.rows64 B R).1 w' v :=
  h.mono fun e w' ⟨v, vs, h1, h2, h3⟩ => ⟨v, h1, h3, vs, h2.base hB⟩

theorem own_slice {w : World} {B s : Nat} {T : TypeId} {v : Value} {n : Nat} {xs : List Value} (h : w.ownsRow B T s v n xs) : ∃ a c, v = .slice a n c := by
  rcases h.2 with ⟨rfl, rfl⟩ | ⟨g, cap, cur, rfl, _⟩
  · exact ⟨none, 0, rfl⟩
  · exact ⟨_, _, rfl⟩

/-- Four slices are books. -/
theorem books_of {w : World} {B : Nat} {b : Bks} {v0 v1 v2 v3 : Value} (wf : W64 b.M) (h0 : (Fact.ownR B 34 3 b.A.length (accL b.A)).1 w v0) (h1 : (Fact.rows64 B b.B).1 w v1) (h2 : (Fact.ownR B 2 1 b.M.length (b.M.map (Value.int .i64))).1 w v2) (h3 : (Fact.rows64 B b.P).1 w v3) :
    ∃ x : BA, v0 = .slice x.aA x.nA x.cA ∧ v1 = .slice x.aB x.nB x.cB ∧ v2 = .slice x.aM x.nM x.cM ∧ v3 = .slice x.aP x.nP x.cP ∧ NewBk w B x b := by
  obtain ⟨vb, h1⟩ := h1
  obtain ⟨vp, h3⟩ := h3
  obtain ⟨aA, cA, rfl⟩ := own_slice h0
  obtain ⟨aB, cB, rfl⟩ := own_slice h1.own
  obtain ⟨aM, cM, rfl⟩ := own_slice h2
  obtain ⟨aP, cP, rfl⟩ := own_slice h3.own
  exact ⟨⟨aA, _, cA, aB, _, cB, aM, _, cM, aP, _, cP⟩, rfl, rfl, rfl, rfl, ⟨h0, ⟨vb, h1⟩, h2, ⟨vp, h3⟩, wf⟩⟩

section
variable {P : Program} {L : List Fact} {T : List Nat} {Q : Exit → Act → World → Prop} {a0 : Act} {w0 : World} {i : Nat} {o : Oper}

/-- append onto an empty literal. -/
theorem owes_append_new (t e : TypeId) (B x y jx jy m c s : Nat) (inf : TypeInfo) (z : Value) (bytes : Nat) (cs : List Value) (ad : Option Addr) (ho : o.op = .call { callee := .builtin .append, args := #[.tmp x, .tmp y], argTypes := #[t, t] })
    (hx : T.getD jx 0 = x) (hdx : (o.after.toList.any fun e => e.on == jx && Region.binds .any e) = true) (hfx : L.getD jx Fact.any = Fact.lit0 B e s)
    (hy : T.getD jy 0 = y) (hdy : (o.after.toList.any fun e => e.on == jy && Region.binds .any e) = true) (hfy : L.getD jy Fact.any = Fact.is (.slice ad m c))
    (hL : L.getD i Fact.any = Fact.ownR B e s m cs) (hcs : cs.length = m * s) (hsrc : 0 < m → ∃ x, ad = some x ∧ ∀ j v, cs[j]? = some v → w0.cell? (x.add j) = some v) (hnn : ad = none → m = 0 ∧ c = 0) (hB : B ≤ w0.heap.size)
    (ht : P.underlying t = some (.slice e)) (hi : P.info? e = some inf) (hz : inf.zero = some z) (hsize : inf.size = s) (hby : inf.bytes = bytes) (hzs : z.cells.size = s) (hs0 : 0 < s)
    (h63 : m ≤ maxLen) (hbytes : m * bytes ≤ 140737488355328) (hw : ∀ a w, Leans L T a0 w0 o a w → Wants T o a) : OwesT P Q L T a0 w0 i o := by
  refine owes_make fun a w hl => ⟨hw a w hl, ?_⟩
  have vx := hl.dep jx hdx
  rw [hfx, hx] at vx
  obtain ⟨b, vx, ox⟩ := vx
  have vy := hl.dep jy hdy
  rw [hfy, hy] at vy
  have ex : a.eval (.tmp x) = .slice (some ⟨b, 0, none⟩) 0 0 := vx
  have ey : a.eval (.tmp y) = .slice ad m c := vy
  rw [vx] at ox
  rw [hL]
  have h0s : m = 0 → cs = [] := fun h0 => List.length_eq_zero_iff.mp (by rw [hcs, h0]; simp)
  cases ad with
  | none =>
    obtain ⟨rfl, rfl⟩ := hnn rfl
    have hrun := run_append_owned_none (P := P) (w := w) B t o.type e inf s ht hi _ 0 _ ox
    refine ⟨.slice (some ⟨b, 0, none⟩) 0 0, w, ?_, Below.refl _ _, ?_⟩
    · simp [execOp, ho, resolve, invoke, builtin, ex, ey, hrun, Result.andThen]
    · show w.ownsRow B e s _ 0 cs
      rw [h0s rfl]
      exact ox
  | some ad =>
    by_cases h0 : m = 0
    · subst h0
      have hrun := run_append_room_cells (P := P) w t o.type e inf ht hi b 0 0 0 ad 0 c [] (by simp) (fun j u hj => by simp at hj) (fun u hu => by simp at hu) (by omega) (fun j hj => by simp at hj) (fun j hj => by simp at hj)
      refine ⟨.slice (some ⟨b, 0, none⟩) 0 0, w, ?_, Below.refl _ _, ?_⟩
      · simp [execOp, ho, resolve, invoke, builtin, ex, ey, hrun, Result.andThen]
        rfl
      · show w.ownsRow B e s _ 0 cs
        rw [h0s rfl]
        exact ox
    · obtain ⟨ad', hae, hsrc'⟩ := hsrc (by omega)
      simp at hae
      subst hae
      obtain ⟨v', w', hrun, r1, r2⟩ := run_append_arg_grows (P := P) w t o.type e inf z s bytes ht hi hz hsize hby hzs hs0 ⟨b, 0, none⟩ 0 0 [] (by simp) (fun j u hj => by simp at hj) ad m c cs hcs (fun j u hj => by
        have h1 := hsrc' j u hj
        rw [hl.below.cell (p := ad.add j) (block_lt_of_cell h1)]
        exact h1) (by omega) (by omega) (by rw [Nat.zero_add]; exact hbytes)
      refine ⟨v', w', ?_, ?_, ?_⟩
      · simp [execOp, ho, resolve, invoke, builtin, ex, ey, hrun, Result.andThen]
      · exact (Below.refl _ _).grown r2 (Nat.le_refl _) (fun k hk => by simp at hk)
      · show w'.ownsRow B e s v' m cs
        have := own_base r1 (Nat.le_trans hB hl.below.size)
        simpa using this
end

end Go.Proofs.Ytpaieecbedgeaaa
