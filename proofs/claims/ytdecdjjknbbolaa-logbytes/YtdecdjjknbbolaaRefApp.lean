/-
  giroref4: Append.
-/
import Derived.Test.YtdecdjjknbbolaaRefSync
import Derived.Deep.RegionLaw
namespace Go.Proofs.Ytdecdjjknbbolaa
open Go.RowKit
set_option linter.unusedVariables false
set_option linter.unusedSimpArgs false

theorem run_append_sl {P : Program} {w : World} (ty t : TypeId) (base : Nat) (e : TypeId) (i : TypeInfo) (z : Value) (bytes : Nat) (ht : P.underlying t = some (.slice e)) (hi : P.info? e = some i) (hz : i.zero = some z)
    (hsize : i.size = 1) (hby : i.bytes = bytes) (hzs : z.cells.size = 1) (v : Value) (n : Nat) (xs : List Value) (hown : w.ownsRow base e 1 v n xs)
    (k : IntKind) (ad : Option Addr) (m c : Nat) (ys : List Int) (hS : Sl k w ad m ys) (hn : ad = none → c = 0) (h63 : n + m ≤ maxLen) (hbytes : (n + m) * bytes ≤ 140737488355328) (hbase : base ≤ w.heap.size) :
    ∃ v' w', (Builtin.append_ #[t, t] ty #[v, .slice ad m c]).run P w = .ok v' w' ∧ w'.ownsRow base e 1 v' (n + m) (xs ++ ys.map (Value.int k)) ∧ w.grownBy w' v.ownBlock := by
  have hl := hS.1
  cases ad with
  | none =>
    have hys : ys = [] := by
      rcases hS.2.2 with h0 | ⟨b, off, ha, _⟩
      · exact h0
      · simp at ha
    subst hys
    simp at hl
    subst hl
    have hc := hn rfl
    subst hc
    exact ⟨v, w, run_append_owned_none w base t ty e i 1 ht hi v n xs hown, by simpa using hown, World.grownBy.refl _ _⟩
  | some ad =>
    obtain ⟨v', w', hr, h1, h2, _⟩ := run_append_own w base t ty e i z 1 bytes ht hi hz hsize hby hzs (by decide) v n xs hown ad m c (ys.map (Value.int k)) (by simp; omega) (by
      intro j u hj
      have hjl : j < ys.length := by
        have := (List.getElem?_eq_some_iff.1 hj).1
        simpa using this
      rcases hS.2.2 with h0 | ⟨b, off, ha, hc⟩
      · subst h0; simp at hjl
      · simp at ha
        subst ha
        rw [Addr.add_flat, hc j hjl]
        simp [hjl] at hj
        rw [← hj]
        simp [List.getD_eq_getElem?_getD, hjl]) (by
      intro u hu
      obtain ⟨z, _, rfl⟩ := List.mem_map.1 hu
      rfl) h63 hbytes hbase
    exact ⟨v', w', hr, h1, h2⟩

/-- append, as one step of a region that draws. -/
theorem step_append_sl {P : Program} {w : World} {ops : Array Oper} {o : Oper} {a : Act} {K : Act → World → Prop} {Q : Exit → Act → World → Prop} {E : Prop} (hgd : o.guard = none) (s x : Operand) (t : TypeId)
    (ho : o.op = .call { callee := .builtin .append, args := #[s, x], argTypes := #[t, t] })
    (base : Nat) (e : TypeId) (i : TypeInfo) (z : Value) (bytes : Nat) (ht : P.underlying t = some (.slice e)) (hi : P.info? e = some i) (hz : i.zero = some z)
    (hsize : i.size = 1) (hby : i.bytes = bytes) (hzs : z.cells.size = 1) (v : Value) (n : Nat) (xs : List Value) (hs : a.eval s = v) (hown : w.ownsRow base e 1 v n xs)
    (k : IntKind) (ad : Option Addr) (m c : Nat) (ys : List Int) (hx : a.eval x = .slice ad m c) (hS : Sl k w ad m ys) (hn : ad = none → c = 0) (h63 : n + m ≤ maxLen) (hbytes : (n + m) * bytes ≤ 140737488355328) (hbase : base ≤ w.heap.size)
    (h : ∀ v' w', w'.ownsRow base e 1 v' (n + m) (xs ++ ys.map (Value.int k)) → w.grownBy w' v.ownBlock → K (a.put o.dst v') w') :
    if Region.wanted o (yielded ops a.tmps) = true then Oper.wp P o a w K Q else E := by
  have hw : Region.wanted o (yielded ops a.tmps) = true := by simp [Region.wanted, hgd]
  rw [if_pos hw]
  obtain ⟨v', w', hrun, h1, h2⟩ := run_append_sl (P := P) (w := w) o.type t base e i z bytes ht hi hz hsize hby hzs v n xs hown k ad m c ys hS hn h63 hbytes hbase
  unfold Oper.wp
  simp [execOp, ho, resolve, invoke, builtin, hs, hx, hrun, Result.andThen]
  exact h v' w' h1 h2

theorem ref_more0 {w w1 w3 : World} {S : Nat → Prop} {b : Nat} {a0 : Option Addr} {c0 : Nat} {a1 : Option Addr} {c1 : Nat} {x y : Int} {d : D} (h : RLies w S b a0 c0 a1 c1 x y d) (hdn : d.dn = false) (O : Only (· = b) w w1) (HZ : w1.heap.size = w.heap.size)
    (HD : Rk w1 b (.slice a0 d.z0.length c0) (.slice a1 d.z1.length c1) d.s0 d.s1 d.room (d.ops + 1) x y d.ar d.dn) (B3 : Below w1.heap.size w1 w3) {ys : List Int} {m : Nat} (hy : Bs ys) (hm : m = ys.length) (hf : ¬ d.room - (d.z0.length : Int) < (m : Int)) {a3 : Option Addr} {c3 : Nat}
    (o3 : w3.ownsRow w1.heap.size 5 1 (.slice a3 (d.z0.length + m) c3) (d.z0.length + m) (d.z0.map (Value.int .u8) ++ ys.map (Value.int .u8))) :
    RDeck (w3.setCell ⟨b, 0, none⟩ (.slice a3 (d.z0.length + m) c3)) (fun k => S k ∨ w.heap.size ≤ k) b (d.more0 ys) ∧ Only S w (w3.setCell ⟨b, 0, none⟩ (.slice a3 (d.z0.length + m) c3)) := by
  have hb1 : b < w1.heap.size := lt_of_block HD
  have D3 : Rk w3 b (.slice a0 d.z0.length c0) (.slice a1 d.z1.length c1) d.s0 d.s1 d.room (d.ops + 1) x y d.ar d.dn := (B3.block b hb1).trans HD
  have D4 := heap_setCell_same w3 b 0 _ _ (.slice a3 (d.z0.length + m) c3) D3
  have O4 : Only (· = b) w3 (w3.setCell ⟨b, 0, none⟩ (.slice a3 (d.z0.length + m) c3)) := (Only.refl (· = b) w3).setCell (p := ⟨b, 0, none⟩) rfl _
  have hnew : ∀ x, a3 = some x → w1.heap.size ≤ x.block := by
    intro x hx
    have := o3.lt
    subst hx
    exact (this x.block rfl).1
  have hlen : (d.z0 ++ ys).length = d.z0.length + m := by rw [List.length_append, hm]
  have ho := o3
  rw [← List.map_append, ← hlen] at ho
  obtain ⟨a, c, hv, hs, hn⟩ := Sl.own ho (h.ok.b0.append hy)
  have hcap := own_cap o3
  rw [hlen] at hv hs
  simp at hv
  obtain ⟨rfl, rfl⟩ := hv
  have sN : Sl .u8 (w3.setCell ⟨b, 0, none⟩ (.slice a3 (d.z0.length + m) c3)) a3 (d.z0.length + m) (d.z0 ++ ys) := hs.only O4 (fun _ x hx => by have := hnew x hx; omega)
  have sO : Sl .u8 (w3.setCell ⟨b, 0, none⟩ (.slice a3 (d.z0.length + m) c3)) a1 d.z1.length d.z1 :=
    ((h.sl1.only O (fun hz x hx => (h.sa1 hz x hx).2)).below B3).only O4 (fun hz x hx => (h.sa1 hz x hx).2)
  have OW : Only S w (w3.setCell ⟨b, 0, none⟩ (.slice a3 (d.z0.length + m) c3)) :=
    (only_b O h.sb).trans (((Below.only B3).mono (fun _ _ hf => hf.elim)).trans (only_b O4 h.sb))
  rw [hdn] at D4
  have k := h.ok
  refine ⟨⟨a3, c3, a1, c1, x, y, ⟨?_, by simp only [D.more0, hlen]; exact sN, sO, ⟨by simp only [D.more0, hlen]; exact hcap.1, hcap.2, own_none o3⟩, h.cp1, .inl h.sb, fun _ x hx => by have := hnew x hx; exact ⟨.inr (by omega), by omega⟩, fun hz x hx => ⟨.inl (h.sa1 hz x hx).1, (h.sa1 hz x hx).2⟩, h.arm, ?_⟩⟩, OW⟩
  · simp only [D.more0, hlen]; exact D4
  · refine ⟨k.r0, k.r1, ?_, ?_, ?_, ?_, k.b0.append hy, k.b1, k.k1⟩
    · have := k.s0; simp only [D.more0, List.length_append]; omega
    · have := k.s1; simp only [D.more0, List.length_append]; omega
    · have := k.l0; simp only [D.more0, List.length_append]; omega
    · have := k.l1; simp only [D.more0, List.length_append]; omega

set_option maxHeartbeats 2000000 in
theorem ref_append_0 (b : Nat) (w : World) (S : Nat → Prop) (d : D) (h : RDeck w S b d) (ad : Option Addr) (m c : Nat) (ys : List Int) (hS : Sl .u8 w ad m ys) (hn : ad = none → c = 0) (hne : ys ≠ [] → ∀ x, ad = some x → x.block ≠ b)
    (hdn : d.dn = false) (hf : ¬ d.room - (d.z0.length : Int) < (m : Int)) (hm : m ≤ 1000000) (hc : d.crash = false) (ho : d.ops ≤ 4611686018427387904) :
    Calls Try.prog 20 #[.pointer (some ⟨b, 0, none⟩), .int .i64 0, .slice ad m c] w (fun e w' => e = .returned (.int .i64 0) ∧ RDeck w' (fun k => S k ∨ w.heap.size ≤ k) b (d.more0 ys) ∧ Only S w w') := by
  obtain ⟨a0, c0, a1, c1, x0, y0, h⟩ := h
  obtain ⟨i0, hi, hz0, hz1, hz2⟩ := info_parts infoU8
  obtain ⟨⟨k0, k1, k2, k3, k4⟩, ⟨k5, k6, k7, k8, k9⟩, fz⟩ := h.dk.ten
  rw [hdn] at k9
  have hl : d.z0.length ≤ 200000 := by have := h.ok.l0; have := h.ok.r1; omega
  have r0 := h.ok.r0
  have r1 := h.ok.r1
  have j0 : IntKind.i64.wrap (d.room - (d.z0.length : Int)) = d.room - (d.z0.length : Int) := i64_wf (by omega) (by omega)
  have H : Hid (RLies w S b a0 c0 a1 c1 x0 y0 d ∧ d.crash = false ∧ d.dn = false) := ⟨h, hc, hdn⟩
  have HS : Hid (Sl .u8 w ad m ys ∧ (ad = none → c = 0) ∧ (ys ≠ [] → ∀ x, ad = some x → x.block ≠ b)) := ⟨hS, hn, hne⟩
  clear h hc hS hn hne
  go_enter Try.func20, Try.ntmps20
  go_wp2
  go_quiet (fail)
  have N := ref_crash_false b (w.drewN nq) S a0 c0 a1 c1 x0 y0 d ⟨H.out.1.dk, H.out.1.sl0, H.out.1.sl1, H.out.1.cp0, H.out.1.cp1, H.out.1.sb, H.out.1.sa0, H.out.1.sa1, H.out.1.arm, H.out.1.ok⟩ H.out.2.1 ho
  go_wp2_with fail
  go_at_call 40
  refine N.mono ?_
  rintro e w1 ⟨rfl, hd, o⟩
  have O : Hid (Only (· = b) w w1) := ((Only.refl (· = b) w).drewN nq).trans o.1
  have HZ : Hid (w1.heap.size = w.heap.size) := o.2
  have HD : Hid (Rk w1 b (.slice a0 d.z0.length c0) (.slice a1 d.z1.length c1) d.s0 d.s1 d.room (d.ops + 1) x0 y0 d.ar d.dn) := hd
  clear N o k0 k1 k2 k3 k4 k5 k6 k7 k8 k9 fz hd j0
  obtain ⟨⟨k0, k1, k2, k3, k4⟩, ⟨k5, k6, k7, k8, k9⟩, fz⟩ := HD.out.ten
  have hb1 : b < w1.heap.size := lt_of_block HD.out
  have SB : Hid (Sl .u8 w1 a0 d.z0.length d.z0) := H.out.1.sl0.only O.out (fun hz x hx => (H.out.1.sa0 hz x hx).2)
  have SY : Hid (Sl .u8 w1 ad m ys) := HS.out.1.only O.out (fun hz x hx => HS.out.2.2 hz x hx)
  have hB0 : Below w1.heap.size w1 (w1.alloc (.cells #[] 5)).drew := ((Below.refl _ _).alloc (Nat.le_refl _) _).drew
  go_wp2
  go_region_law (first
    | (refine step_append_sl (by rfl) _ _ 26 (by rfl) w1.heap.size 5 i0 _ 1 Try.underlying26 hi hz0 hz1 hz2 (by rfl) (.slice (some ⟨w1.heap.size, 0, none⟩) 0 0) 0 [] (by rfl) (by exact World.ownsRow_lit w1 #[] 0 (Nat.le_refl _) (Nat.zero_le _) rfl) .u8 a0 d.z0.length c0 d.z0 (by rfl) (by exact SB.out.below hB0) H.out.1.cp0.2.2 (by unfold maxLen; omega) (by omega) (by simp) ?_
       intro v2 w2 o2 g2
       have B2 : Below w1.heap.size w1 w2 := hB0.grown g2 hB0.size (fun k hk => by simp [Value.ownBlock] at hk; omega))
    | (refine step_append_sl (by rfl) _ _ 26 (by rfl) w1.heap.size 5 i0 _ 1 Try.underlying26 hi hz0 hz1 hz2 (by rfl) v2 d.z0.length (d.z0.map (Value.int .u8)) (by rfl) (by simpa using o2) .u8 ad m c ys (by rfl) (SY.out.below B2) HS.out.2.1 (by unfold maxLen; omega) (by omega) B2.size ?_
       intro v3 w3 o3 g3
       obtain ⟨a3, c3, rfl⟩ := own_form o3
       have B3 : Below w1.heap.size w1 w3 := B2.grown g3 B2.size (fun k hk => (o2.lt k hk).1)
       have q0 := (B3.cell (p := ⟨b, 0, none⟩) hb1).trans k0
       have qf := (B3.frozen (p := ⟨b, 0, none⟩) hb1).trans (fz 0))
    | fail)
  all_goals
    have F : Hid _ := ref_more0 H.out.1 H.out.2.2 O.out HZ.out HD.out B3 HS.out.1.2.1 HS.out.1.1 (by omega) o3
    clear k0 k1 k2 k3 k4 k5 k6 k7 k8 k9 fz o2 g2 g3 o3 B2 B3 q0 qf SB SY hB0
    go_wp2
    go_ret
    exact ⟨rfl, F.out⟩

theorem ref_more1 {w w1 w3 : World} {S : Nat → Prop} {b : Nat} {a0 : Option Addr} {c0 : Nat} {a1 : Option Addr} {c1 : Nat} {x y : Int} {d : D} (h : RLies w S b a0 c0 a1 c1 x y d) (hdn : d.dn = false) (O : Only (· = b) w w1) (HZ : w1.heap.size = w.heap.size)
    (HD : Rk w1 b (.slice a0 d.z0.length c0) (.slice a1 d.z1.length c1) d.s0 d.s1 d.room (d.ops + 1) x y d.ar d.dn) (B3 : Below w1.heap.size w1 w3) {ys : List Int} {m : Nat} (hy : Bs ys) (hm : m = ys.length) (hf : ¬ d.room - (d.z1.length : Int) < (m : Int)) {a3 : Option Addr} {c3 : Nat}
    (o3 : w3.ownsRow w1.heap.size 5 1 (.slice a3 (d.z1.length + m) c3) (d.z1.length + m) (d.z1.map (Value.int .u8) ++ ys.map (Value.int .u8))) :
    RDeck (w3.setCell ⟨b, 1, none⟩ (.slice a3 (d.z1.length + m) c3)) (fun k => S k ∨ w.heap.size ≤ k) b (d.more1 ys) ∧ Only S w (w3.setCell ⟨b, 1, none⟩ (.slice a3 (d.z1.length + m) c3)) := by
  have hb1 : b < w1.heap.size := lt_of_block HD
  have D3 : Rk w3 b (.slice a0 d.z0.length c0) (.slice a1 d.z1.length c1) d.s0 d.s1 d.room (d.ops + 1) x y d.ar d.dn := (B3.block b hb1).trans HD
  have D4 := heap_setCell_same w3 b 1 _ _ (.slice a3 (d.z1.length + m) c3) D3
  have O4 : Only (· = b) w3 (w3.setCell ⟨b, 1, none⟩ (.slice a3 (d.z1.length + m) c3)) := (Only.refl (· = b) w3).setCell (p := ⟨b, 1, none⟩) rfl _
  have hnew : ∀ x, a3 = some x → w1.heap.size ≤ x.block := by
    intro x hx
    have := o3.lt
    subst hx
    exact (this x.block rfl).1
  have hlen : (d.z1 ++ ys).length = d.z1.length + m := by rw [List.length_append, hm]
  have ho := o3
  rw [← List.map_append, ← hlen] at ho
  obtain ⟨a, c, hv, hs, hn⟩ := Sl.own ho (h.ok.b1.append hy)
  have hcap := own_cap o3
  rw [hlen] at hv hs
  simp at hv
  obtain ⟨rfl, rfl⟩ := hv
  have sN : Sl .u8 (w3.setCell ⟨b, 1, none⟩ (.slice a3 (d.z1.length + m) c3)) a3 (d.z1.length + m) (d.z1 ++ ys) := hs.only O4 (fun _ x hx => by have := hnew x hx; omega)
  have sO : Sl .u8 (w3.setCell ⟨b, 1, none⟩ (.slice a3 (d.z1.length + m) c3)) a0 d.z0.length d.z0 :=
    ((h.sl0.only O (fun hz x hx => (h.sa0 hz x hx).2)).below B3).only O4 (fun hz x hx => (h.sa0 hz x hx).2)
  have OW : Only S w (w3.setCell ⟨b, 1, none⟩ (.slice a3 (d.z1.length + m) c3)) :=
    (only_b O h.sb).trans (((Below.only B3).mono (fun _ _ hf => hf.elim)).trans (only_b O4 h.sb))
  rw [hdn] at D4
  have k := h.ok
  refine ⟨⟨a0, c0, a3, c3, x, y, ⟨?_, sO, by simp only [D.more1, hlen]; exact sN, h.cp0, ⟨by simp only [D.more1, hlen]; exact hcap.1, hcap.2, own_none o3⟩, .inl h.sb, fun hz x hx => ⟨.inl (h.sa0 hz x hx).1, (h.sa0 hz x hx).2⟩, fun _ x hx => by have := hnew x hx; exact ⟨.inr (by omega), by omega⟩, h.arm, ?_⟩⟩, OW⟩
  · simp only [D.more1, hlen]; exact D4
  · refine ⟨k.r0, k.r1, ?_, ?_, ?_, ?_, k.b0, k.b1.append hy, k.k1⟩
    · have := k.s0; simp only [D.more1, List.length_append]; omega
    · have := k.s1; simp only [D.more1, List.length_append]; omega
    · have := k.l0; simp only [D.more1, List.length_append]; omega
    · have := k.l1; simp only [D.more1, List.length_append]; omega

set_option maxHeartbeats 2000000 in
theorem ref_append_1 (b : Nat) (w : World) (S : Nat → Prop) (d : D) (h : RDeck w S b d) (ad : Option Addr) (m c : Nat) (ys : List Int) (hS : Sl .u8 w ad m ys) (hn : ad = none → c = 0) (hne : ys ≠ [] → ∀ x, ad = some x → x.block ≠ b)
    (hdn : d.dn = false) (hf : ¬ d.room - (d.z1.length : Int) < (m : Int)) (hm : m ≤ 1000000) (hc : d.crash = false) (ho : d.ops ≤ 4611686018427387904) :
    Calls Try.prog 20 #[.pointer (some ⟨b, 0, none⟩), .int .i64 1, .slice ad m c] w (fun e w' => e = .returned (.int .i64 0) ∧ RDeck w' (fun k => S k ∨ w.heap.size ≤ k) b (d.more1 ys) ∧ Only S w w') := by
  obtain ⟨a0, c0, a1, c1, x0, y0, h⟩ := h
  obtain ⟨i0, hi, hz0, hz1, hz2⟩ := info_parts infoU8
  obtain ⟨⟨k0, k1, k2, k3, k4⟩, ⟨k5, k6, k7, k8, k9⟩, fz⟩ := h.dk.ten
  rw [hdn] at k9
  have hl : d.z1.length ≤ 200000 := by have := h.ok.l1; have := h.ok.r1; omega
  have r0 := h.ok.r0
  have r1 := h.ok.r1
  have j0 : IntKind.i64.wrap (d.room - (d.z1.length : Int)) = d.room - (d.z1.length : Int) := i64_wf (by omega) (by omega)
  have H : Hid (RLies w S b a0 c0 a1 c1 x0 y0 d ∧ d.crash = false ∧ d.dn = false) := ⟨h, hc, hdn⟩
  have HS : Hid (Sl .u8 w ad m ys ∧ (ad = none → c = 0) ∧ (ys ≠ [] → ∀ x, ad = some x → x.block ≠ b)) := ⟨hS, hn, hne⟩
  clear h hc hS hn hne
  go_enter Try.func20, Try.ntmps20
  go_wp2
  go_quiet (fail)
  have N := ref_crash_false b (w.drewN nq) S a0 c0 a1 c1 x0 y0 d ⟨H.out.1.dk, H.out.1.sl0, H.out.1.sl1, H.out.1.cp0, H.out.1.cp1, H.out.1.sb, H.out.1.sa0, H.out.1.sa1, H.out.1.arm, H.out.1.ok⟩ H.out.2.1 ho
  go_wp2_with fail
  go_at_call 40
  refine N.mono ?_
  rintro e w1 ⟨rfl, hd, o⟩
  have O : Hid (Only (· = b) w w1) := ((Only.refl (· = b) w).drewN nq).trans o.1
  have HZ : Hid (w1.heap.size = w.heap.size) := o.2
  have HD : Hid (Rk w1 b (.slice a0 d.z0.length c0) (.slice a1 d.z1.length c1) d.s0 d.s1 d.room (d.ops + 1) x0 y0 d.ar d.dn) := hd
  clear N o k0 k1 k2 k3 k4 k5 k6 k7 k8 k9 fz hd j0
  obtain ⟨⟨k0, k1, k2, k3, k4⟩, ⟨k5, k6, k7, k8, k9⟩, fz⟩ := HD.out.ten
  have hb1 : b < w1.heap.size := lt_of_block HD.out
  have SB : Hid (Sl .u8 w1 a1 d.z1.length d.z1) := H.out.1.sl1.only O.out (fun hz x hx => (H.out.1.sa1 hz x hx).2)
  have SY : Hid (Sl .u8 w1 ad m ys) := HS.out.1.only O.out (fun hz x hx => HS.out.2.2 hz x hx)
  have hB0 : Below w1.heap.size w1 (w1.alloc (.cells #[] 5)).drew := ((Below.refl _ _).alloc (Nat.le_refl _) _).drew
  go_wp2
  go_region_law (first
    | (refine step_append_sl (by rfl) _ _ 26 (by rfl) w1.heap.size 5 i0 _ 1 Try.underlying26 hi hz0 hz1 hz2 (by rfl) (.slice (some ⟨w1.heap.size, 0, none⟩) 0 0) 0 [] (by rfl) (by exact World.ownsRow_lit w1 #[] 0 (Nat.le_refl _) (Nat.zero_le _) rfl) .u8 a1 d.z1.length c1 d.z1 (by rfl) (by exact SB.out.below hB0) H.out.1.cp1.2.2 (by unfold maxLen; omega) (by omega) (by simp) ?_
       intro v2 w2 o2 g2
       have B2 : Below w1.heap.size w1 w2 := hB0.grown g2 hB0.size (fun k hk => by simp [Value.ownBlock] at hk; omega))
    | (refine step_append_sl (by rfl) _ _ 26 (by rfl) w1.heap.size 5 i0 _ 1 Try.underlying26 hi hz0 hz1 hz2 (by rfl) v2 d.z1.length (d.z1.map (Value.int .u8)) (by rfl) (by simpa using o2) .u8 ad m c ys (by rfl) (SY.out.below B2) HS.out.2.1 (by unfold maxLen; omega) (by omega) B2.size ?_
       intro v3 w3 o3 g3
       obtain ⟨a3, c3, rfl⟩ := own_form o3
       have B3 : Below w1.heap.size w1 w3 := B2.grown g3 B2.size (fun k hk => (o2.lt k hk).1)
       have q0 := (B3.cell (p := ⟨b, 1, none⟩) hb1).trans k1
       have qf := (B3.frozen (p := ⟨b, 1, none⟩) hb1).trans (fz 1))
    | fail)
  all_goals
    have F : Hid _ := ref_more1 H.out.1 H.out.2.2 O.out HZ.out HD.out B3 HS.out.1.2.1 HS.out.1.1 (by omega) o3
    clear k0 k1 k2 k3 k4 k5 k6 k7 k8 k9 fz o2 g2 g3 o3 B2 B3 q0 qf SB SY hB0
    go_wp2
    go_ret
    exact ⟨rfl, F.out⟩


set_option maxHeartbeats 2000000 in
theorem ref_append_crash (b : Nat) (w : World) (S : Nat → Prop) (d : D) (h : RDeck w S b d) (side : Int) (hs : side = 0 ∨ side = 1) (ad : Option Addr) (m c : Nat) (hdn : d.dn = false) (hf : ¬ d.room - ((d.read side).length : Int) < (m : Int)) (hm : m ≤ 1000000) (hc : d.crash = true) :
    Calls Try.prog 20 #[.pointer (some ⟨b, 0, none⟩), .int .i64 side, .slice ad m c] w (fun e w' => e = .returned (.int .i64 11) ∧ RDeck w' S b d.lost ∧ Only S w w') := by
  obtain ⟨a0, c0, a1, c1, x0, y0, h⟩ := h
  obtain ⟨⟨k0, k1, k2, k3, k4⟩, ⟨k5, k6, k7, k8, k9⟩, fz⟩ := h.dk.ten
  rw [hdn] at k9
  have hl0 : d.z0.length ≤ 200000 := by have := h.ok.l0; have := h.ok.r1; omega
  have hl1 : d.z1.length ≤ 200000 := by have := h.ok.l1; have := h.ok.r1; omega
  have r0 := h.ok.r0
  have r1 := h.ok.r1
  have H : Hid (RLies w S b a0 c0 a1 c1 x0 y0 d ∧ d.crash = true) := ⟨h, hc⟩
  clear h hc
  rcases hs with rfl | rfl
  · rw [show d.read 0 = d.z0 by simp [D.read]] at hf
    have j0 : IntKind.i64.wrap (d.room - (d.z0.length : Int)) = d.room - (d.z0.length : Int) := i64_wf (by omega) (by omega)
    go_enter Try.func20, Try.ntmps20
    go_wp2
    go_quiet (fail)
    have N := ref_crash_true b (w.drewN nq) S a0 c0 a1 c1 x0 y0 d ⟨H.out.1.dk, H.out.1.sl0, H.out.1.sl1, H.out.1.cp0, H.out.1.cp1, H.out.1.sb, H.out.1.sa0, H.out.1.sa1, H.out.1.arm, H.out.1.ok⟩ H.out.2
    go_wp2_with fail
    go_at_call 40
    refine N.mono ?_
    rintro e w1 ⟨rfl, hd, o⟩
    have O : Hid (Only (· = b) w w1) := ((Only.refl (· = b) w).drewN nq).trans o.1
    clear N k0 k1 k2 k3 k4 k5 k6 k7 k8 k9 fz o
    go_wp2
    go_ret
    exact ⟨rfl, hd, only_b O.out H.out.1.sb⟩
  · rw [show d.read 1 = d.z1 by simp [D.read]] at hf
    have j0 : IntKind.i64.wrap (d.room - (d.z1.length : Int)) = d.room - (d.z1.length : Int) := i64_wf (by omega) (by omega)
    go_enter Try.func20, Try.ntmps20
    go_wp2
    go_quiet (fail)
    have N := ref_crash_true b (w.drewN nq) S a0 c0 a1 c1 x0 y0 d ⟨H.out.1.dk, H.out.1.sl0, H.out.1.sl1, H.out.1.cp0, H.out.1.cp1, H.out.1.sb, H.out.1.sa0, H.out.1.sa1, H.out.1.arm, H.out.1.ok⟩ H.out.2
    go_wp2_with fail
    go_at_call 40
    refine N.mono ?_
    rintro e w1 ⟨rfl, hd, o⟩
    have O : Hid (Only (· = b) w w1) := ((Only.refl (· = b) w).drewN nq).trans o.1
    clear N k0 k1 k2 k3 k4 k5 k6 k7 k8 k9 fz o
    go_wp2
    go_ret
    exact ⟨rfl, hd, only_b O.out H.out.1.sb⟩

set_option maxHeartbeats 2000000 in
theorem ref_append_full (b : Nat) (w : World) (S : Nat → Prop) (d : D) (h : RDeck w S b d) (side : Int) (hs : side = 0 ∨ side = 1) (ad : Option Addr) (m c : Nat) (hdn : d.dn = false) (hf : d.room - ((d.read side).length : Int) < (m : Int)) (hm : m ≤ 1000000) :
    Calls Try.prog 20 #[.pointer (some ⟨b, 0, none⟩), .int .i64 side, .slice ad m c] w (fun e w' => e = .returned (.int .i64 3) ∧ Only (fun _ => False) w w') := by
  obtain ⟨a0, c0, a1, c1, x0, y0, h⟩ := h
  obtain ⟨⟨k0, k1, k2, k3, k4⟩, ⟨k5, k6, k7, k8, k9⟩, fz⟩ := h.dk.ten
  rw [hdn] at k9
  have hl0 : d.z0.length ≤ 200000 := by have := h.ok.l0; have := h.ok.r1; omega
  have hl1 : d.z1.length ≤ 200000 := by have := h.ok.l1; have := h.ok.r1; omega
  have r0 := h.ok.r0
  have r1 := h.ok.r1
  clear h
  rcases hs with rfl | rfl
  · rw [show d.read 0 = d.z0 by simp [D.read]] at hf
    have j0 : IntKind.i64.wrap (d.room - (d.z0.length : Int)) = d.room - (d.z0.length : Int) := i64_wf (by omega) (by omega)
    go_enter Try.func20, Try.ntmps20
    go_wp2
    go_quiet (fail)
    go_wp2
    go_ret
    exact ⟨rfl, (Only.refl _ _).drewN nq⟩
  · rw [show d.read 1 = d.z1 by simp [D.read]] at hf
    have j0 : IntKind.i64.wrap (d.room - (d.z1.length : Int)) = d.room - (d.z1.length : Int) := i64_wf (by omega) (by omega)
    go_enter Try.func20, Try.ntmps20
    go_wp2
    go_quiet (fail)
    go_wp2
    go_ret
    exact ⟨rfl, (Only.refl _ _).drewN nq⟩

theorem ref_append_down (b : Nat) (w : World) (S : Nat → Prop) (d : D) (h : RDeck w S b d) (side : Int) (ad : Option Addr) (m c : Nat) (hdn : d.dn = true) :
    Calls Try.prog 20 #[.pointer (some ⟨b, 0, none⟩), .int .i64 side, .slice ad m c] w (fun e w' => e = .returned (.int .i64 11) ∧ w' = w) := by
  obtain ⟨a0, c0, a1, c1, x0, y0, h⟩ := h
  obtain ⟨⟨k0, k1, k2, k3, k4⟩, ⟨k5, k6, k7, k8, k9⟩, fz⟩ := h.dk.ten
  rw [hdn] at k9
  clear h
  go_enter Try.func20, Try.ntmps20
  go_wp2
  go_ret
  exact ⟨rfl, rfl⟩

theorem ref_append_side (b : Nat) (w : World) (S : Nat → Prop) (d : D) (h : RDeck w S b d) (side : Int) (hs : ¬ (0 ≤ side ∧ side ≤ 1)) (ad : Option Addr) (m c : Nat) (hdn : d.dn = false) :
    Calls Try.prog 20 #[.pointer (some ⟨b, 0, none⟩), .int .i64 side, .slice ad m c] w (fun e w' => e = .returned (.int .i64 1) ∧ w' = w) := by
  obtain ⟨a0, c0, a1, c1, x0, y0, h⟩ := h
  obtain ⟨⟨k0, k1, k2, k3, k4⟩, ⟨k5, k6, k7, k8, k9⟩, fz⟩ := h.dk.ten
  rw [hdn] at k9
  clear h
  by_cases h0 : side < 0
  · go_enter Try.func20, Try.ntmps20
    go_wp2
    go_ret
    exact ⟨rfl, rfl⟩
  · have h1 : 1 < side := by omega
    go_enter Try.func20, Try.ntmps20
    go_wp2
    go_ret
    exact ⟨rfl, rfl⟩

theorem ref_append (b : Nat) (w : World) (S : Nat → Prop) (d : D) (h : RDeck w S b d) (side : Int) (ad : Option Addr) (m c : Nat) (ys : List Int) (hS : Sl .u8 w ad m ys) (hn : ad = none → c = 0) (hne : ys ≠ [] → ∀ x, ad = some x → x.block ≠ b)
    (hm : m ≤ 1000000) (ho : d.ops ≤ 4611686018427387904) :
    Calls Try.prog 20 #[.pointer (some ⟨b, 0, none⟩), .int .i64 side, .slice ad m c] w (fun e w' => e = .returned (.int .i64 (d.append side ys).1) ∧ RDeck w' (fun k => S k ∨ w.heap.size ≤ k) b (d.append side ys).2 ∧ Only S w w') := by
  unfold D.append
  have hS0 : ∀ k, k < w.heap.size → S k → S k ∨ w.heap.size ≤ k := fun _ _ hk => .inl hk
  cases hdn : d.dn with
  | true =>
    refine (ref_append_down b w S d h side ad m c hdn).mono ?_
    rintro e w' ⟨rfl, rfl⟩
    exact ⟨rfl, h.mono hS0, Only.refl _ _⟩
  | false =>
    by_cases hs : 0 ≤ side ∧ side ≤ 1
    · simp only [hs, not_true, if_false, Bool.false_eq_true, and_self]
      have hs' : side = 0 ∨ side = 1 := by omega
      rw [← hS.1]
      by_cases hf : d.room - ((d.read side).length : Int) < (m : Int)
      · simp only [hf, if_true]
        refine (ref_append_full b w S d h side hs' ad m c hdn hf hm).mono ?_
        rintro e w' ⟨rfl, o⟩
        exact ⟨rfl, (h.only o (fun _ _ hk => hk)).mono (fun _ _ hk => .inl hk), o.mono (fun _ _ hk => hk.elim)⟩
      · simp only [hf, if_false]
        cases hc : d.crash with
        | true =>
          refine (ref_append_crash b w S d h side hs' ad m c hdn hf hm hc).mono ?_
          rintro e w' ⟨rfl, hd, o⟩
          exact ⟨rfl, hd.mono (fun _ _ hk => .inl hk), o⟩
        | false =>
          rcases hs' with rfl | rfl
          · exact ref_append_0 b w S d h ad m c ys hS hn hne hdn (by simpa [D.read] using hf) hm hc ho
          · exact ref_append_1 b w S d h ad m c ys hS hn hne hdn (by simpa [D.read] using hf) hm hc ho
    · simp only [hs, not_false_eq_true, if_true, if_false, Bool.false_eq_true]
      refine (ref_append_side b w S d h side hs ad m c hdn).mono ?_
      rintro e w' ⟨rfl, rfl⟩
      exact ⟨rfl, h.mono hS0, Only.refl _ _⟩

end Go.Proofs.Ytdecdjjknbbolaa
