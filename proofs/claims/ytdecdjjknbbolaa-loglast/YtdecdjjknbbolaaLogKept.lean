/-
  log: what is kept whatever crashes (P6.3), over what a deck holds.
-/
import Derived.Test.YtdecdjjknbbolaaLogSpec
namespace Go.Proofs.Ytdecdjjknbbolaa
open Go.RowKit
set_option linter.unusedVariables false
set_option linter.unusedSimpArgs false

/-- The same deck, with other bytes: room, what it is armed with. -/
structure Kin (d d' : D) : Prop where
  room : d'.room = d.room
  ar : d'.ar = d.ar
  at' : d'.at' = d.at'
  kp : d'.kp = d.kp
  ops : d'.ops ≤ d.ops + 3

theorem more_read (d : D) (s : Int) (hs : s = 0 ∨ s = 1) (ys : List Int) :
    (if s = 0 then d.more0 ys else d.more1 ys).read s = d.read s ++ ys ∧ (if s = 0 then d.more0 ys else d.more1 ys).read (1 - s) = d.read (1 - s) := by
  rcases hs with rfl | rfl <;> simp [D.read, D.more0, D.more1]

theorem none_read (d : D) (s : Int) (hs : s = 0 ∨ s = 1) :
    (if s = 0 then d.none0 else d.none1).read s = [] ∧ (if s = 0 then d.none0 else d.none1).read (1 - s) = d.read (1 - s) := by
  rcases hs with rfl | rfl <;> simp [D.read, D.none0, D.none1]

theorem none_full (d : D) (s : Int) (hs : s = 0 ∨ s = 1) (hf : Full d) : Full (if s = 0 then d.none0 else d.none1) := by
  rcases hs with rfl | rfl
  · exact ⟨rfl, hf.2⟩
  · exact ⟨hf.1, rfl⟩

theorem kept_read (d : D) (s : Int) : d.kept.read s = d.read s := rfl
theorem lost_dn (d : D) : d.lost.dn = true := rfl

/-- Append and Sync on a deck whose bytes are all synced. -/
theorem put_cases (d : D) (hf : Full d) (hdn : d.dn = false) (s : Int) (hs : s = 0 ∨ s = 1) (ys : List Int) :
    (d.room - ((d.read s).length : Int) < (ys.length : Int) ∧ d.put s ys = (3, d)) ∨
    (¬ d.room - ((d.read s).length : Int) < (ys.length : Int) ∧ (d.put s ys).1 = 0 ∧ (d.put s ys).2.read s = d.read s ++ ys ∧ (d.put s ys).2.read (1 - s) = d.read (1 - s) ∧ Full (d.put s ys).2 ∧ (d.put s ys).2.dn = false ∧ (d.put s ys).2.room = d.room ∧ (d.put s ys).2.ar = d.ar ∧ (d.put s ys).2.ops = d.ops + 2) ∨
    (¬ d.room - ((d.read s).length : Int) < (ys.length : Int) ∧ d.ar = true ∧ (d.put s ys).1 = 11 ∧ (∃ k, (d.put s ys).2.read s = d.read s ++ ys.take k) ∧ (d.put s ys).2.read (1 - s) = d.read (1 - s) ∧ Full (d.put s ys).2 ∧ (d.put s ys).2.dn = true ∧ (d.put s ys).2.room = d.room ∧ (d.put s ys).2.ops ≤ d.ops + 1) := by
  by_cases hr : d.room - ((d.read s).length : Int) < (ys.length : Int)
  · refine .inl ⟨hr, ?_⟩
    have e : d.append s ys = (3, d) := by
      unfold D.append
      rw [if_neg (by simp [hdn]), if_neg (by rcases hs with rfl | rfl <;> simp), if_pos hr]
    rw [D.put, e]
    simp
  right
  by_cases hc : d.crash = true
  · right
    have e : d.append s ys = (11, d.lost) := by
      unfold D.append
      rw [if_neg (by simp [hdn]), if_neg (by rcases hs with rfl | rfl <;> simp), if_neg hr, if_pos hc]
    have e2 : d.put s ys = (11, d.lost) := by rw [D.put, e]; simp
    rw [e2]
    have hl := hf.lost
    have er : ∀ t, d.lost.read t = d.read t := fun t => by simp [D.read, hl.1, hl.2.1]
    exact ⟨hr, (D.crash_true hc).1, rfl, ⟨0, by rw [er]; simp⟩, er _, hl.2.2, rfl, rfl, by simp [D.lost]⟩
  have e : d.append s ys = (0, if s = 0 then d.more0 ys else d.more1 ys) := by
    unfold D.append
    rw [if_neg (by simp [hdn]), if_neg (by rcases hs with rfl | rfl <;> simp), if_neg hr, if_neg hc]
  have e2 : d.put s ys = (if s = 0 then d.more0 ys else d.more1 ys).sync := by rw [D.put, e]; simp
  have hm := more_read d s hs ys
  obtain ⟨m, hmm⟩ : ∃ m, (if s = 0 then d.more0 ys else d.more1 ys) = m := ⟨_, rfl⟩
  have hmd : m.dn = false ∧ m.room = d.room ∧ m.ar = d.ar ∧ m.ops = d.ops + 1 ∧ m.s0 = d.s0 ∧ m.s1 = d.s1 ∧ (if s = 0 then m.s1 = m.z1.length else m.s0 = m.z0.length) ∧ m.s0 ≤ m.z0.length ∧ m.s1 ≤ m.z1.length := by
    have h0 := hf.1
    have h1 := hf.2
    rw [← hmm]
    rcases hs with rfl | rfl
    · simp [D.more0]; omega
    · simp [D.more1]; omega
  rw [hmm] at e2 hm
  rw [e2]
  by_cases hc2 : m.crash = true
  · right
    have e3 : m.sync = (11, m.lost) := by
      unfold D.sync
      rw [if_neg (by simp [hmd.1]), if_pos hc2]
    rw [e3]
    obtain ⟨l1, k, hk1, hk2, hk3⟩ := lost_cut (d := m) s hs hmd.2.2.2.2.2.2.2.1 hmd.2.2.2.2.2.2.2.2 hmd.2.2.2.2.2.2.1
    have hks : (if s = 0 then m.s0 else m.s1) = (d.read s).length := by
      rw [hmd.2.2.2.2.1, hmd.2.2.2.2.2.1, hf.1, hf.2]
      rcases hs with rfl | rfl <;> simp [D.read]
    rw [hks] at hk1
    refine ⟨hr, by rw [← hmd.2.2.1]; exact (D.crash_true hc2).1, rfl, ⟨k - (d.read s).length, ?_⟩, l1.trans hm.2, lost_full hmd.2.2.2.2.2.2.2.1 hmd.2.2.2.2.2.2.2.2, rfl, hmd.2.1, by simp [D.lost, hmd.2.2.2.1]⟩
    show m.lost.read s = _
    rw [hk3, hm.1, List.take_append, List.take_of_length_le hk1]
  · left
    have e3 : m.sync = (0, m.kept) := by
      unfold D.sync
      rw [if_neg (by simp [hmd.1]), if_neg hc2]
    rw [e3]
    refine ⟨hr, rfl, hm.1, hm.2, ⟨rfl, rfl⟩, rfl, hmd.2.1, hmd.2.2.1, ?_⟩
    simp [D.kept, hmd.2.2.2.1]

/-- To save on the side that is not the log's. -/
theorem save_cases (d : D) (hf : Full d) (hdn : d.dn = false) (s : Int) (hs : s = 0 ∨ s = 1) (g : Int) (snap : List Int) (hl : snap.length + 8 ≤ 60000) (hr : ((snap.length + 10 : Nat) : Int) ≤ d.room) (hg : g ≤ 4611686018427387904) :
    ((d.save g s snap).1 = 0 ∧ (d.save g s snap).2.read s = snapS g snap ∧ (d.save g s snap).2.read (1 - s) = d.read (1 - s) ∧ Full (d.save g s snap).2 ∧ (d.save g s snap).2.dn = false ∧ (d.save g s snap).2.room = d.room ∧ (d.save g s snap).2.ar = d.ar ∧ (d.save g s snap).2.ops = d.ops + 3) ∨
    (d.ar = true ∧ (d.save g s snap).1 = 11 ∧ ((d.save g s snap).2.read s = d.read s ∨ ∃ k, (d.save g s snap).2.read s = (snapS g snap).take k) ∧ (d.save g s snap).2.read (1 - s) = d.read (1 - s) ∧ Full (d.save g s snap).2 ∧ (d.save g s snap).2.dn = true ∧ (d.save g s snap).2.room = d.room ∧ (d.save g s snap).2.ops ≤ d.ops + 3) := by
  have e0 : d.save g s snap = if (d.wipe s).1 ≠ 0 then d.wipe s else (d.wipe s).2.put s (snapS g snap) := by
    unfold D.save
    rw [if_neg (by omega)]
  by_cases hc : d.crash = true
  · right
    have e : d.wipe s = (11, d.lost) := by
      unfold D.wipe
      rw [if_neg (by simp [hdn]), if_neg (by rcases hs with rfl | rfl <;> simp), if_pos hc]
    have e2 : d.save g s snap = (11, d.lost) := by rw [e0, e]; simp
    rw [e2]
    have hl := hf.lost
    have er : ∀ t, d.lost.read t = d.read t := fun t => by simp [D.read, hl.1, hl.2.1]
    exact ⟨(D.crash_true hc).1, rfl, .inl (er _), er _, hl.2.2, rfl, rfl, by simp [D.lost]⟩
  have e : d.wipe s = (0, if s = 0 then d.none0 else d.none1) := by
    unfold D.wipe
    rw [if_neg (by simp [hdn]), if_neg (by rcases hs with rfl | rfl <;> simp), if_neg hc]
  have hn := none_read d s hs
  have hnf := none_full d s hs hf
  have hnd : (if s = 0 then d.none0 else d.none1).dn = false ∧ (if s = 0 then d.none0 else d.none1).room = d.room ∧ (if s = 0 then d.none0 else d.none1).ar = d.ar ∧ (if s = 0 then d.none0 else d.none1).ops = d.ops + 1 := by
    rcases hs with rfl | rfl <;> simp [D.none0, D.none1]
  have e2 : d.save g s snap = (if s = 0 then d.none0 else d.none1).put s (snapS g snap) := by rw [e0, e]; simp
  obtain ⟨m, hmm⟩ : ∃ m, (if s = 0 then d.none0 else d.none1) = m := ⟨_, rfl⟩
  rw [hmm] at e2 hn hnf hnd
  rw [e2]
  rcases put_cases m hnf hnd.1 s hs (snapS g snap) with ⟨h1, _⟩ | ⟨_, h1, h2, h3, h4, h5, h6, h7, h8⟩ | ⟨_, h0, h1, ⟨k, h2⟩, h3, h4, h5, h6, h8⟩
  · rw [hn.1, hnd.2.1, snapS_length] at h1
    simp at h1 hr
    omega
  · exact .inl ⟨h1, by rw [h2, hn.1, List.nil_append], h3.trans hn.2, h4, h5, h6.trans hnd.2.1, h7.trans hnd.2.2.1, by rw [h8, hnd.2.2.2]⟩
  · exact .inr ⟨by rw [← hnd.2.2.1]; exact h0, h1, .inr ⟨k, by rw [h2, hn.1, List.nil_append]⟩, h3.trans hn.2, h4, h5, h6.trans hnd.2.1, by have := hnd.2.2.2; omega⟩

theorem snapS_eq (g : Int) (snap : List Int) : snapS g snap = encR [enc g ++ snap] := by simp [snapS, encR]

/-- A record behind records, cut: it is there whole, or its bytes are no record. -/
theorem rec_part (row : List Int) (k : Nat) (h : row.length ≤ 60000) : (recS row).take k = recS row ∨ (scanS ((recS row).take k)).1 = [] := by
  by_cases hk : k < row.length + 2
  · right
    have := scanS_cut row [] k h hk
    rw [List.append_nil] at this
    rw [this]
  · left
    exact List.take_of_length_le (by rw [recS_length]; omega)

theorem scanS_nil : (scanS []).1 = [] := by rw [scanS_short [] (by simp)]

/-- What Add does to what is held. -/
theorem held_add {d : D} {g s : Int} {snap : List Int} {rows : List (List Int)} (h : Held d g s snap rows []) (hdn : d.dn = false) (n : Nat) (row : List Int) (hl : row.length ≤ 60000) :
    (d.room - ((d.read s).length : Int) < ((row.length + 2 : Nat) : Int) ∧ d.add ⟨g, s, n, false⟩ row = (10, d, ⟨g, s, n, false⟩)) ∨
    (¬ d.room - ((d.read s).length : Int) < ((row.length + 2 : Nat) : Int) ∧ (d.add ⟨g, s, n, false⟩ row).1 = 0 ∧ (d.add ⟨g, s, n, false⟩ row).2.2 = ⟨g, s, n + 1, false⟩ ∧ Held (d.add ⟨g, s, n, false⟩ row).2.1 g s snap (rows ++ [row]) [] ∧ (d.add ⟨g, s, n, false⟩ row).2.1.dn = false ∧ (d.add ⟨g, s, n, false⟩ row).2.1.room = d.room ∧ (d.add ⟨g, s, n, false⟩ row).2.1.ar = d.ar ∧ (d.add ⟨g, s, n, false⟩ row).2.1.ops = d.ops + 2) ∨
    (d.ar = true ∧ (d.add ⟨g, s, n, false⟩ row).1 = 11 ∧ (d.add ⟨g, s, n, false⟩ row).2.2 = ⟨g, s, n, false⟩ ∧ (d.add ⟨g, s, n, false⟩ row).2.1.room = d.room ∧ (d.add ⟨g, s, n, false⟩ row).2.1.ops ≤ d.ops + 1 ∧
      (Held (d.add ⟨g, s, n, false⟩ row).2.1 g s snap (rows ++ [row]) [] ∨ ∃ tail, Held (d.add ⟨g, s, n, false⟩ row).2.1 g s snap rows tail)) := by
  have hb := h.bytes
  rw [List.append_nil] at hb
  have e0 : d.add ⟨g, s, n, false⟩ row = if (d.put s (recS row)).1 = 0 then (0, (d.put s (recS row)).2, ⟨g, s, n + 1, false⟩) else (if (d.put s (recS row)).1 = 3 then 10 else (d.put s (recS row)).1, (d.put s (recS row)).2, ⟨g, s, n, false⟩) := by
    unfold D.add
    rw [if_neg (by simp; omega)]
  have hlr : ∀ z ∈ rows ++ [row], z.length ≤ 60000 := by
    intro z hz
    rcases List.mem_append.1 hz with hz | hz
    · exact h.lr z hz
    · simp at hz; rw [hz]; exact hl
  have hgrow : encR ((enc g ++ snap) :: rows) ++ recS row = encR ((enc g ++ snap) :: (rows ++ [row])) ++ [] := by
    rw [List.append_nil, ← encR_one]
    rfl
  rcases put_cases d h.full hdn s h.hs (recS row) with ⟨h1, h2⟩ | ⟨hr, h1, h2, h3, h4, h5, h6, h7, h8⟩ | ⟨hr, h0, h1, ⟨k, h2⟩, h3, h4, h5, h6, h8⟩
  · left
    rw [recS_length] at h1
    rw [e0, h2]
    exact ⟨h1, by simp⟩
  · right; left
    rw [recS_length] at hr
    rw [e0, if_pos h1]
    refine ⟨hr, rfl, rfl, ⟨h.hs, h4, ?_, scanS_nil, ?_, h.g1, h.g2, h.ls, hlr⟩, h5, h6, h7, h8⟩
    · show (d.put s (recS row)).2.read s = _
      rw [h2, hb, hgrow]
    · show ∀ r, heldS ((d.put s (recS row)).2.read (1 - s)) = _ → _
      rw [h3]
      exact h.oth
  · right; right
    rw [e0, if_neg (by rw [h1]; decide), if_neg (by rw [h1]; decide)]
    refine ⟨h0, h1, rfl, h6, h8, ?_⟩
    show Held (d.put s (recS row)).2 g s snap (rows ++ [row]) [] ∨ ∃ tail, Held (d.put s (recS row)).2 g s snap rows tail
    have ho : ∀ r, heldS ((d.put s (recS row)).2.read (1 - s)) = some r → r.1 < g := by rw [h3]; exact h.oth
    rcases rec_part row k hl with hk | hk
    · left
      exact ⟨h.hs, h4, by rw [h2, hb, hk, hgrow], scanS_nil, ho, h.g1, h.g2, h.ls, hlr⟩
    · right
      exact ⟨(recS row).take k, h.hs, h4, by rw [h2, hb], hk, ho, h.g1, h.g2, h.ls, h.lr⟩

/-- What Save does to what is held. -/
theorem held_save {d : D} {g s : Int} {snap : List Int} {rows : List (List Int)} {tail : List Int} (h : Held d g s snap rows tail) (hdn : d.dn = false) (n : Nat) (b : Bool) (new : List Int) (hl : new.length + 8 ≤ 60000) (hr : ((new.length + 10 : Nat) : Int) ≤ d.room) (hg : g + 1 ≤ 4611686018427387904) :
    ((d.resave ⟨g, s, n, b⟩ new).1 = 0 ∧ (d.resave ⟨g, s, n, b⟩ new).2.2 = ⟨g + 1, 1 - s, 0, false⟩ ∧ Held (d.resave ⟨g, s, n, b⟩ new).2.1 (g + 1) (1 - s) new [] [] ∧ (d.resave ⟨g, s, n, b⟩ new).2.1.dn = false ∧ (d.resave ⟨g, s, n, b⟩ new).2.1.room = d.room ∧ (d.resave ⟨g, s, n, b⟩ new).2.1.ar = d.ar ∧ (d.resave ⟨g, s, n, b⟩ new).2.1.ops = d.ops + 3) ∨
    (d.ar = true ∧ (d.resave ⟨g, s, n, b⟩ new).1 = 11 ∧ (d.resave ⟨g, s, n, b⟩ new).2.2 = ⟨g, s, n, b⟩ ∧ (d.resave ⟨g, s, n, b⟩ new).2.1.room = d.room ∧ (d.resave ⟨g, s, n, b⟩ new).2.1.ops ≤ d.ops + 3 ∧
      (Held (d.resave ⟨g, s, n, b⟩ new).2.1 (g + 1) (1 - s) new [] [] ∨ Held (d.resave ⟨g, s, n, b⟩ new).2.1 g s snap rows tail)) := by
  have hs1 : 1 - s = 0 ∨ 1 - s = 1 := by rcases h.hs with rfl | rfl <;> simp
  have h11 : 1 - (1 - s) = s := by omega
  have g1 := h.g1
  have e0 : d.resave ⟨g, s, n, b⟩ new = if (d.save (g + 1) (1 - s) new).1 = 0 then (0, (d.save (g + 1) (1 - s) new).2, ⟨g + 1, 1 - s, 0, false⟩) else ((d.save (g + 1) (1 - s) new).1, (d.save (g + 1) (1 - s) new).2, ⟨g, s, n, b⟩) := rfl
  have hnew : ∀ d' : D, d'.read (1 - s) = snapS (g + 1) new → d'.read s = d.read s → Full d' → Held d' (g + 1) (1 - s) new [] [] := by
    intro d' h1 h2 h3
    refine ⟨hs1, h3, ?_, scanS_nil, ?_, by omega, hg, hl, fun z hz => by simp at hz⟩
    · rw [h1, snapS_eq, List.append_nil]
    · rw [h11, h2]
      intro r hh
      rw [h.some] at hh
      simp at hh
      rw [← hh]
      show g < g + 1
      omega
  rcases save_cases d h.full hdn (1 - s) hs1 (g + 1) new hl hr hg with ⟨h1, h2, h3, h4, h5, h6, h7, h8⟩ | ⟨h0, h1, h2, h3, h4, h5, h6, h8⟩
  · left
    rw [h11] at h3
    rw [e0, if_pos h1]
    exact ⟨rfl, rfl, hnew _ h2 h3 h4, h5, h6, h7, h8⟩
  · right
    rw [h11] at h3
    rw [e0, if_neg (by rw [h1]; decide)]
    refine ⟨h0, h1, rfl, h6, h8, ?_⟩
    show Held (d.save (g + 1) (1 - s) new).2 (g + 1) (1 - s) new [] [] ∨ Held (d.save (g + 1) (1 - s) new).2 g s snap rows tail
    have hold : ∀ t, (d.save (g + 1) (1 - s) new).2.read (1 - s) = t → (∀ r, heldS t = some r → r.1 < g) → Held (d.save (g + 1) (1 - s) new).2 g s snap rows tail := by
      intro t ht ho
      exact ⟨h.hs, h4, by rw [h3]; exact h.bytes, h.tl, by rw [ht]; exact ho, h.g1, h.g2, h.ls, h.lr⟩
    rcases h2 with h2 | ⟨k, h2⟩
    · exact .inr (hold _ h2 h.oth)
    · have hlen : (enc (g + 1) ++ new).length ≤ 60000 := by rw [List.length_append, enc_length]; omega
      rcases rec_part (enc (g + 1) ++ new) k hlen with hk | hk
      · exact .inl (hnew _ (h2.trans hk) h3 h4)
      · exact .inr (hold _ h2 (fun r hh => by rw [snapS, held_none hk] at hh; simp at hh))

/-- Open of a deck on which nothing lies, and that is not armed. -/
theorem held_new (room : Int) (snap : List Int) (hl : snap.length + 8 ≤ 60000) (hr : ((snap.length + 10 : Nat) : Int) ≤ room) :
    ∃ d, (D.new room).opened snap = (0, d, some ⟨1, 0, 0, false⟩, snap, []) ∧ Held d 1 0 snap [] [] ∧ d.dn = false ∧ d.room = room ∧ d.ar = false ∧ d.ops = 3 := by
  have hf : Full (D.new room) := ⟨rfl, rfl⟩
  have hn : heldS [] = none := held_none scanS_nil
  have hk : (D.new room).look.ok = false := by
    have e : (D.new room).look = seenS (heldS []) (heldS []) := rfl
    rw [e, hn]
    rfl
  rcases save_cases (D.new room) hf rfl 0 (.inl rfl) 1 snap hl hr (by decide) with ⟨h1, h2, h3, h4, h5, h6, h7, h8⟩ | ⟨h0, _⟩
  · refine ⟨((D.new room).save 1 0 snap).2, ?_, ⟨.inl rfl, h4, ?_, scanS_nil, ?_, by decide, by decide, hl, fun z hz => by simp at hz⟩, h5, h6, h7, h8⟩
    · unfold D.opened
      rw [hk, h1]
      simp
    · rw [h2, snapS_eq, List.append_nil]
    · rw [h3]
      intro r hh
      rw [show (D.new room).read (1 - 0) = [] from rfl, hn] at hh
      simp at hh
  · simp [D.new] at h0

/-- Open of a deck that holds a log. -/
theorem held_open {d : D} {g s : Int} {snap : List Int} {rows : List (List Int)} {tail : List Int} (h : Held d g s snap rows tail) (fresh : List Int) : d.opened fresh = (0, d, some ⟨g, s, rows.length, true⟩, snap, rows) := by
  unfold D.opened
  rw [h.look]
  simp

/-- Where there is no room to save: nothing is done. -/
theorem save_full (d : D) (g s : Int) (snap : List Int) (h : d.room < ((snap.length + 10 : Nat) : Int)) : d.save g s snap = (10, d) := by
  unfold D.save
  rw [if_pos (.inr (.inl h))]

end Go.Proofs.Ytdecdjjknbbolaa
