/-
  msg: a command's bytes: the program's answer and the document's; both in one form.
-/
import Derived.Test.YtaifnlfebdochaaMsgBytes
namespace Go.Proofs.Ytaifnlfebdochaa
open Go.RowKit

/-- The bytes of a message, of a command. -/
def bytesS (k : Int) (fs : List Int) : List Int := k :: encs (fs.take (manyS k).toNat)
def cmdS (who k : Int) (fs : List Int) : List Int := encs [who] ++ bytesS k fs

theorem isS_kind {k : Int} {fs : List Int} (h : isS k fs = true) : 1 ≤ k ∧ k ≤ 23 ∧ 0 ≤ manyS k ∧ manyS k ≤ 6 ∧ ∀ n ∈ fs.drop (manyS k).toNat, n = 0 := by
  unfold isS at h
  rw [Bool.and_eq_true, decide_eq_true_iff, decide_eq_true_iff] at h
  have hr := manyS_range k
  refine ⟨?_, ?_, h.1, hr.2, h.2⟩
  · by_cases h0 : k < 1
    · by_cases h1 : k < 0
      · rw [manyS_low h1] at h; omega
      · obtain rfl : k = 0 := by omega
        have := h.1
        revert this
        decide
    · omega
  · by_cases h0 : 24 ≤ k
    · rw [manyS_high h0] at h; omega
    · omega

theorem bytesS_length {k f0 f1 f2 f3 f4 f5 : Int} (h : isS k [f0, f1, f2, f3, f4, f5] = true) : (bytesS k [f0, f1, f2, f3, f4, f5]).length = 1 + 8 * (manyS k).toNat := by
  obtain ⟨_, _, h0, h6, _⟩ := isS_kind h
  unfold bytesS
  rw [List.length_cons, encs_length, List.length_take]
  simp
  omega

/-- Bytes, of what is a message. -/
theorem bytes_is (k f0 f1 f2 f3 f4 f5 : Int) (w : World) (h : isS k [f0, f1, f2, f3, f4, f5] = true) (hwf : ∀ z ∈ [f0, f1, f2, f3, f4, f5], IntKind.i64.wrap z = z) :
    Calls Try.prog 9 #[.agg #[.int .i64 k, .int .i64 f0, .int .i64 f1, .int .i64 f2, .int .i64 f3, .int .i64 f4, .int .i64 f5]] w (BytesEnd w (bytesS k [f0, f1, f2, f3, f4, f5])) := by
  obtain ⟨h1, h2, h3, h4, _⟩ := isS_kind h
  exact bytes_walk k f0 f1 f2 f3 f4 f5 (manyS k).toNat w h (by omega) (by omega) (by omega) (by omega) hwf

theorem refBytes_is (k f0 f1 f2 f3 f4 f5 : Int) (w : World) (h : isS k [f0, f1, f2, f3, f4, f5] = true) (hwf : ∀ z ∈ [f0, f1, f2, f3, f4, f5], IntKind.i64.wrap z = z) :
    Calls Try.prog 12 #[.agg #[.int .i64 k, .int .i64 f0, .int .i64 f1, .int .i64 f2, .int .i64 f3, .int .i64 f4, .int .i64 f5]] w (BytesEnd w (bytesS k [f0, f1, f2, f3, f4, f5])) := by
  obtain ⟨h1, h2, h3, h4, _⟩ := isS_kind h
  exact refBytes_walk k f0 f1 f2 f3 f4 f5 (manyS k).toNat w h (by omega) (by omega) (by omega) (by omega) hwf

theorem equalIn_nil {P : Program} (d : Nat) (t e : TypeId) (h : P.underlying t = some (.slice e)) (w : World) (a : Option Addr) (l c : Nat) : (Op.equalIn (d + 1) t (.slice a l c) (.slice none 0 0)).run P w = .ok a.isNone w := by
  cases a <;> simp [Op.equalIn, run_underlying h]

/-- A slice against nil. -/
theorem eql_nil {P : Program} (t e : TypeId) (h : P.underlying t = some (.slice e)) (w : World) (a : Option Addr) (l c : Nat) : (binOp .eql t (.slice a l c) (.slice none 0 0)).run P w = .ok (.bool a.isNone) w := by
  have : (Op.equal t (.slice a l c) (.slice none 0 0)).run P w = .ok a.isNone w := equalIn_nil 9999 t e h w a l c
  simp [binOp, this]

theorem cmd_none (who k f0 f1 f2 f3 f4 f5 : Int) (w : World) (h : isS k [f0, f1, f2, f3, f4, f5] = false) :
    Calls Try.prog 10 #[.agg #[.int .i64 who, .int .i64 k, .int .i64 f0, .int .i64 f1, .int .i64 f2, .int .i64 f3, .int .i64 f4, .int .i64 f5]] w (fun e w' => e = .returned (.slice none 0 0) ∧ Below w.heap.size w w') := by
  have hnil := eql_nil (P := Try.prog) 27 5 Try.underlying27
  go_enter Try.func10, Try.ntmps10
  go_wp2_with fail
  go_at_call 9
  refine (bytes_none k f0 f1 f2 f3 f4 f5 _ h).mono ?_
  rintro e w1 ⟨rfl, hw⟩
  have hb0 : Below w.heap.size w (w.alloc (.cells #[.int .i64 who, .int .i64 k, .int .i64 f0, .int .i64 f1, .int .i64 f2, .int .i64 f3, .int .i64 f4, .int .i64 f5] 26)) := (Below.refl _ _).alloc (Nat.le_refl _) _
  have HB : Below w.heap.size w w1 := hb0.trans (hw.mono hb0.size)
  clear hw hb0
  go_wp2
  go_ret
  exact ⟨rfl, HB⟩

theorem cmd_is (who k f0 f1 f2 f3 f4 f5 : Int) (w : World) (h : isS k [f0, f1, f2, f3, f4, f5] = true) (hwf : ∀ z ∈ [f0, f1, f2, f3, f4, f5], IntKind.i64.wrap z = z) (hw0 : IntKind.i64.wrap who = who) :
    Calls Try.prog 10 #[.agg #[.int .i64 who, .int .i64 k, .int .i64 f0, .int .i64 f1, .int .i64 f2, .int .i64 f3, .int .i64 f4, .int .i64 f5]] w (BytesEnd w (cmdS who k [f0, f1, f2, f3, f4, f5])) := by
  have hl := bytesS_length h
  have hr := manyS_range k
  have HC : Hid (cmdS who k [f0, f1, f2, f3, f4, f5] = encs [who] ++ bytesS k [f0, f1, f2, f3, f4, f5]) := rfl
  have B := fun w => bytes_is k f0 f1 f2 f3 f4 f5 w h hwf
  obtain ⟨bs, hbs⟩ : ∃ bs, bytesS k [f0, f1, f2, f3, f4, f5] = bs := ⟨_, rfl⟩
  rw [hbs] at B hl HC
  have hl56 : bs.length ≤ 56 := by omega
  clear hbs hr hl h
  obtain ⟨i0, hi, hz0, hz1, hz2⟩ := info_parts infoU8
  have hnil := eql_nil (P := Try.prog) 27 5 Try.underlying27
  go_enter Try.func10, Try.ntmps10
  go_wp2_with fail
  go_at_call 9
  refine (B _).mono ?_
  rintro e w1 ⟨a, c, rfl, hs, hc, hm, hw⟩
  have A1 : At w1 w.heap.size [who, k, f0, f1, f2, f3, f4, f5] := (at_new w [who, k, f0, f1, f2, f3, f4, f5] 26 (0, 0)).below hw
  have c0 := A1 0 (by simp)
  have hb0 : Below w.heap.size w (w.alloc (.cells #[.int .i64 who, .int .i64 k, .int .i64 f0, .int .i64 f1, .int .i64 f2, .int .i64 f3, .int .i64 f4, .int .i64 f5] 26)) := (Below.refl _ _).alloc (Nat.le_refl _) _
  have HB : Below w.heap.size w w1 := hb0.trans (hw.mono hb0.size)
  clear hw hb0 A1
  go_wp2_with fail
  go_at_call 27
  refine (put_any (some ⟨w1.heap.size, 0, none⟩) 1 1 [who] _ (Sl.new .i64 w1 _ (0, 0) [who] (by simpa using hw0)) (by omega)).mono ?_
  rintro e w2 ⟨g2, cap2, rfl, ho, hb2⟩
  have hb1 : Below w1.heap.size w1 (w1.alloc (.cells #[.int .i64 who] 2)) := (Below.refl _ _).alloc (Nat.le_refl _) _
  have hb12 : Below w1.heap.size w1 w2 := hb1.trans (hb2.mono hb1.size)
  have hs2 := hs.below hb12
  have ho2 := own_base ho hb1.size
  have hle : Hid ((encs [who]).length = 8) := rfl
  obtain ⟨N, hN⟩ : ∃ N, bs.length = N := ⟨_, rfl⟩
  have HN : Hid (bs.length = N) := hN
  obtain ⟨M8, hM8⟩ : ∃ M8, (encs [who]).length = M8 := ⟨_, rfl⟩
  have hM : M8 ≤ 8 := by rw [← hM8, hle.out]; exact Nat.le_refl _
  have HM8 : Hid ((encs [who]).length = M8) := hM8
  rw [hN] at hs2 hl56
  rw [hM8] at ho2
  have hgr : Hid (∀ v' w3, w3.ownsRow w1.heap.size 5 1 v' (M8 + N) ((encs [who]).map (Value.int .u8) ++ bs.map (Value.int .u8)) → w2.grownBy w3 (Value.slice (some ⟨g2, 0, none⟩) M8 cap2).ownBlock →
      (Value.slice (some ⟨g2, 0, none⟩) M8 cap2 ≠ .slice none 0 0 → v' ≠ .slice none 0 0) → BytesEnd w (cmdS who k [f0, f1, f2, f3, f4, f5]) (.returned v') w3) := by
    intro v' w3 ho3 hg3 hne
    obtain ⟨ga, ca, rfl⟩ := own_some ho3 (hne (by simp))
    have hge : w1.heap.size ≤ g2 := by
      rcases ho2.2 with ⟨hx, _⟩ | ⟨g', cap', cur, hv, hb, _⟩
      · simp at hx
      · simp at hv
        omega
    rw [← List.map_append] at ho3
    have hlen : (cmdS who k [f0, f1, f2, f3, f4, f5]).length = M8 + N := by rw [HC.out, List.length_append, hM8, hN]
    obtain ⟨h1, h2⟩ := own_cap ho3
    have wf : ∀ z ∈ encs [who] ++ bs, IntKind.u8.wrap z = z := fun z hz => by
      rcases List.mem_append.mp hz with hz | hz
      · exact encs_wf _ z hz
      · exact hs2.2.1 z hz
    obtain ⟨a3, c3, hv, hs3, _⟩ := Sl.own ho3 wf
    rw [← HC.out, hlen] at hv hs3
    simp only [Value.slice.injEq] at hv
    obtain ⟨rfl, _, rfl⟩ := hv
    have b3 : Below w1.heap.size w1 w3 := hb12.grown hg3 hb12.size (fun k hk => by simp [Value.ownBlock] at hk; omega)
    refine ⟨_, _, by rw [hlen], by rw [hlen]; exact hs3, by rw [hlen]; exact h1, h2, HB.trans (b3.mono HB.size)⟩
  clear ho hb1 hb2 hs B
  have hsz := hb12.size
  clear hN hM8
  rw [HN.out, HM8.out]
  go_wp2_with (at_builtin; refine wpList_append_sl rfl _ _ 27 rfl w1.heap.size 5 i0 (.int .u8 0) 1 Try.underlying27 hi hz0 hz1 hz2 rfl _ _ _ rfl ho2 .u8 (some a) N c bs rfl hs2 (fun h => by simp at h) ?c3 ?c4 ?c5 ?_)
  case c3 => unfold maxLen; omega
  case c4 => omega
  case c5 => exact hsz
  intro v' w3 ho3 hg3 hne
  have hfin := hgr.out v' w3 ho3 hg3 (fun _ => hne)
  clear hgr ho3 hg3 hne ho2 hs2
  go_wp2
  go_ret
  exact hfin

theorem refCmd_none (who k f0 f1 f2 f3 f4 f5 : Int) (w : World) (h : isS k [f0, f1, f2, f3, f4, f5] = false) :
    Calls Try.prog 13 #[.agg #[.int .i64 who, .int .i64 k, .int .i64 f0, .int .i64 f1, .int .i64 f2, .int .i64 f3, .int .i64 f4, .int .i64 f5]] w (fun e w' => e = .returned (.slice none 0 0) ∧ Below w.heap.size w w') := by
  have hnil := eql_nil (P := Try.prog) 27 5 Try.underlying27
  go_enter Try.func13, Try.ntmps13
  go_wp2_with fail
  go_at_call 12
  refine (refBytes_none k f0 f1 f2 f3 f4 f5 _ h).mono ?_
  rintro e w1 ⟨rfl, hw⟩
  have hb0 : Below w.heap.size w (w.alloc (.cells #[.int .i64 who, .int .i64 k, .int .i64 f0, .int .i64 f1, .int .i64 f2, .int .i64 f3, .int .i64 f4, .int .i64 f5] 26)) := (Below.refl _ _).alloc (Nat.le_refl _) _
  have HB : Below w.heap.size w w1 := hb0.trans (hw.mono hb0.size)
  clear hw hb0
  go_wp2
  go_ret
  exact ⟨rfl, HB⟩

theorem refCmd_is (who k f0 f1 f2 f3 f4 f5 : Int) (w : World) (h : isS k [f0, f1, f2, f3, f4, f5] = true) (hwf : ∀ z ∈ [f0, f1, f2, f3, f4, f5], IntKind.i64.wrap z = z) (hw0 : IntKind.i64.wrap who = who) :
    Calls Try.prog 13 #[.agg #[.int .i64 who, .int .i64 k, .int .i64 f0, .int .i64 f1, .int .i64 f2, .int .i64 f3, .int .i64 f4, .int .i64 f5]] w (BytesEnd w (cmdS who k [f0, f1, f2, f3, f4, f5])) := by
  have hl := bytesS_length h
  have hr := manyS_range k
  have HC : Hid (cmdS who k [f0, f1, f2, f3, f4, f5] = encs [who] ++ bytesS k [f0, f1, f2, f3, f4, f5]) := rfl
  have B := fun w => refBytes_is k f0 f1 f2 f3 f4 f5 w h hwf
  obtain ⟨bs, hbs⟩ : ∃ bs, bytesS k [f0, f1, f2, f3, f4, f5] = bs := ⟨_, rfl⟩
  rw [hbs] at B hl HC
  have hl56 : bs.length ≤ 56 := by omega
  clear hbs hr hl h
  obtain ⟨i0, hi, hz0, hz1, hz2⟩ := info_parts infoU8
  have hnil := eql_nil (P := Try.prog) 27 5 Try.underlying27
  go_enter Try.func13, Try.ntmps13
  go_wp2_with fail
  go_at_call 12
  refine (B _).mono ?_
  rintro e w1 ⟨a, c, rfl, hs, hc, hm, hw⟩
  have A1 : At w1 w.heap.size [who, k, f0, f1, f2, f3, f4, f5] := (at_new w [who, k, f0, f1, f2, f3, f4, f5] 26 (0, 0)).below hw
  have c0 := A1 0 (by simp)
  have hb0 : Below w.heap.size w (w.alloc (.cells #[.int .i64 who, .int .i64 k, .int .i64 f0, .int .i64 f1, .int .i64 f2, .int .i64 f3, .int .i64 f4, .int .i64 f5] 26)) := (Below.refl _ _).alloc (Nat.le_refl _) _
  have HB : Below w.heap.size w w1 := hb0.trans (hw.mono hb0.size)
  clear hw hb0 A1
  go_wp2_with fail
  go_at_call 26
  refine (refPut_any (some ⟨w1.heap.size, 0, none⟩) 1 1 [who] _ (Sl.new .i64 w1 _ (0, 0) [who] (by simpa using hw0)) (by omega)).mono ?_
  rintro e w2 ⟨g2, cap2, rfl, ho, hb2⟩
  have hb1 : Below w1.heap.size w1 (w1.alloc (.cells #[.int .i64 who] 2)) := (Below.refl _ _).alloc (Nat.le_refl _) _
  have hb12 : Below w1.heap.size w1 w2 := hb1.trans (hb2.mono hb1.size)
  have hs2 := hs.below hb12
  have ho2 := own_base ho hb1.size
  have hle : Hid ((encs [who]).length = 8) := rfl
  obtain ⟨N, hN⟩ : ∃ N, bs.length = N := ⟨_, rfl⟩
  have HN : Hid (bs.length = N) := hN
  obtain ⟨M8, hM8⟩ : ∃ M8, (encs [who]).length = M8 := ⟨_, rfl⟩
  have hM : M8 ≤ 8 := by rw [← hM8, hle.out]; exact Nat.le_refl _
  have HM8 : Hid ((encs [who]).length = M8) := hM8
  rw [hN] at hs2 hl56
  rw [hM8] at ho2
  have hgr : Hid (∀ v' w3, w3.ownsRow w1.heap.size 5 1 v' (M8 + N) ((encs [who]).map (Value.int .u8) ++ bs.map (Value.int .u8)) → w2.grownBy w3 (Value.slice (some ⟨g2, 0, none⟩) M8 cap2).ownBlock →
      (Value.slice (some ⟨g2, 0, none⟩) M8 cap2 ≠ .slice none 0 0 → v' ≠ .slice none 0 0) → BytesEnd w (cmdS who k [f0, f1, f2, f3, f4, f5]) (.returned v') w3) := by
    intro v' w3 ho3 hg3 hne
    obtain ⟨ga, ca, rfl⟩ := own_some ho3 (hne (by simp))
    have hge : w1.heap.size ≤ g2 := by
      rcases ho2.2 with ⟨hx, _⟩ | ⟨g', cap', cur, hv, hb, _⟩
      · simp at hx
      · simp at hv
        omega
    rw [← List.map_append] at ho3
    have hlen : (cmdS who k [f0, f1, f2, f3, f4, f5]).length = M8 + N := by rw [HC.out, List.length_append, hM8, hN]
    obtain ⟨h1, h2⟩ := own_cap ho3
    have wf : ∀ z ∈ encs [who] ++ bs, IntKind.u8.wrap z = z := fun z hz => by
      rcases List.mem_append.mp hz with hz | hz
      · exact encs_wf _ z hz
      · exact hs2.2.1 z hz
    obtain ⟨a3, c3, hv, hs3, _⟩ := Sl.own ho3 wf
    rw [← HC.out, hlen] at hv hs3
    simp only [Value.slice.injEq] at hv
    obtain ⟨rfl, _, rfl⟩ := hv
    have b3 : Below w1.heap.size w1 w3 := hb12.grown hg3 hb12.size (fun k hk => by simp [Value.ownBlock] at hk; omega)
    refine ⟨_, _, by rw [hlen], by rw [hlen]; exact hs3, by rw [hlen]; exact h1, h2, HB.trans (b3.mono HB.size)⟩
  clear ho hb1 hb2 hs B
  have hsz := hb12.size
  clear hN hM8
  rw [HN.out, HM8.out]
  go_wp2_with (at_builtin; refine wpList_append_sl rfl _ _ 27 rfl w1.heap.size 5 i0 (.int .u8 0) 1 Try.underlying27 hi hz0 hz1 hz2 rfl _ _ _ rfl ho2 .u8 (some a) N c bs rfl hs2 (fun h => by simp at h) ?c3 ?c4 ?c5 ?_)
  case c3 => unfold maxLen; omega
  case c4 => omega
  case c5 => exact hsz
  intro v' w3 ho3 hg3 hne
  have hfin := hgr.out v' w3 ho3 hg3 (fun _ => hne)
  clear hgr ho3 hg3 hne ho2 hs2
  go_wp2
  go_ret
  exact hfin

end Go.Proofs.Ytaifnlfebdochaa
