/-
  girolaw13.known.
-/
import Derived.Test.YtjibnbheegcnkaaRowIs
namespace Go.Proofs.Ytjibnbheegcnkaa
open Go.RowKit
set_option linter.unusedVariables false
set_option linter.unusedSimpArgs false

def kp1 : P7 := (1, 0, 0, 0, 3, 0, 0)
def kp2 : P7 := (2, 0, 0, 0, 2, 0, 0)
theorem known_put1 : qPut [] kp1 = [kp1] ∧ qPutE [] kp1 = 0 := ⟨rfl, rfl⟩
theorem known_put2 : qPut [kp1] kp2 = [kp2, kp1] ∧ qPutE [kp1] kp2 = 0 := ⟨rfl, rfl⟩
theorem known_is1 : qIs [kp1] = true := by decide
theorem known_is2 : qIs [kp2, kp1] = true := by decide
theorem known_f1 : qFind [kp2, kp1] 1 = 1 := by decide
theorem known_f9 : qFind [kp2, kp1] 9 = -1 := by decide

set_option maxHeartbeats 4000000 in
theorem known13 (w : World) : Calls Try.prog 22 #[] w fun e w' => e = .returned (.bool true) ∧ Below w.heap.size w w' := by
  have P1 := fun u => put_any7 none 0 0 [] kp1 u (PGood.nil u) Que.nil
  have P2 := fun u a c (g : PGood u a 1 c [kp1]) => put_any7 a 1 c [kp1] kp2 u g (qIs_iff.1 known_is1)
  have I := fun u a c (g : PGood u a 2 c [kp2, kp1]) => is_any7 a 2 c [kp2, kp1] u g
  have F1 := fun u a c (g : PGood u a 2 c [kp2, kp1]) => find_any a 2 c 1 [kp2, kp1] u (by omega) g.pays
  have F9 := fun u a c (g : PGood u a 2 c [kp2, kp1]) => find_any a 2 c 9 [kp2, kp1] u (by omega) g.pays
  rw [known_put1.1, known_put1.2] at P1
  rw [known_put2.1, known_put2.2] at P2
  simp only [known_is2] at I
  simp only [known_f1] at F1
  simp only [known_f9] at F9
  unfold PutEnd7 at P1 P2
  simp only [List.length_cons, List.length_nil, Nat.zero_add] at P1 P2
  rw [show kp1 = (1, 0, 0, 0, 3, 0, 0) from rfl] at P1 P2 I F1 F9
  rw [show kp2 = (2, 0, 0, 0, 2, 0, 0) from rfl] at P2 I F1 F9
  go_enter Try.func22, Try.ntmps22
  go_wp2_with fail
  go_at_call 8
  refine (P1 _).mono ?_
  rintro e w1 ⟨a1, c1, rfl, g1, n1, hb⟩
  have B1 : Hid (Below w.heap.size w w1) := hb
  have P2' := P2 w1 a1 c1 g1
  clear hb g1 n1 P1 P2
  go_wp2_with fail
  go_at_call 8
  refine P2'.mono ?_
  rintro e w2 ⟨a2, c2, rfl, g2, n2, hb⟩
  have B2 : Hid (Below w.heap.size w w2) := B1.out.trans (hb.mono B1.out.size)
  have G2 : Hid (PGood w2 a2 2 c2 [(2, 0, 0, 0, 2, 0, 0), (1, 0, 0, 0, 3, 0, 0)]) := g2
  obtain ⟨b, off, rfl, HC⟩ := g2.at (i := 0) (by omega)
  obtain ⟨z0, -⟩ := HC 0 (by omega)
  have z0 : w2.cell? ⟨b, off, none⟩ = some (.int .i64 2) := by simpa using z0
  have I2 := I w2 _ c2 G2.out
  clear hb g2 n2 P2' HC I
  go_wp2_with fail
  go_at_call 21
  refine I2.mono ?_
  rintro e w3 ⟨rfl, hb⟩
  have B3 : Hid (Below w.heap.size w w3) := B2.out.trans (hb.mono B2.out.size)
  have G3 : Hid (PGood w3 (some ⟨b, off, none⟩) 2 c2 [(2, 0, 0, 0, 2, 0, 0), (1, 0, 0, 0, 3, 0, 0)]) := G2.out.below hb
  have F1' := F1 w3 _ c2 G3.out
  clear hb I2 z0 G2 F1
  go_wp2_with fail
  go_at_call 18
  refine F1'.mono ?_
  rintro e w4 ⟨rfl, hb⟩
  have B4 : Hid (Below w.heap.size w w4) := B3.out.trans (hb.mono B3.out.size)
  have F9' := F9 w4 _ c2 (G3.out.below hb)
  clear hb F1' G3 F9
  go_wp2_with fail
  go_at_call 18
  refine F9'.mono ?_
  rintro e w5 ⟨rfl, hb⟩
  have B5 : Hid (Below w.heap.size w w5) := B4.out.trans (hb.mono B4.out.size)
  clear hb F9'
  go_wp2
  go_ret
  exact ⟨rfl, B5.out⟩

end Go.Proofs.Ytjibnbheegcnkaa
