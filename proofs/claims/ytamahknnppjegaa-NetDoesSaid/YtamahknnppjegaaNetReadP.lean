/-
  NETS' BYTES IN PLAIN: written, and read.
-/
import Derived.Test.YtamahknnppjegaaNetMsg
namespace Go.Proofs.Ytamahknnppjegaa
open Go.RowKit Mem Box
namespace Net
open Wire (B8 asInts asInts_toNat toNat_asInts asInts_nonneg asInts_lt encM enc encs encV msg1 msg1_enc msg1_one msg1_bad enc_len_le encs_len)

/-- All messages' bytes. -/
def writeP (pl : List Mp) : List B8 := pl.flatMap bytesM
theorem write_snoc (l : List Mp) (m : Mp) : writeP (l ++ [m]) = writeP l ++ bytesM m := by simp [writeP]
theorem bytes_len {p : Mp} (h : okM p = true) (hf : Fits p) : (bytesM p).length ≤ 67000 := by
  obtain ⟨h1, h2, h3, h4⟩ := (ok_iff p).1 h
  have e1 : (encs [p.k.toNat, p.f.toNat, p.t.toNat, p.i.toNat, p.a.length]).length ≤ 50 := encs_len (l := [p.k.toNat, p.f.toNat, p.t.toNat, p.i.toNat, p.a.length]) (fun z hz => by
    have hb := hf.1
    simp only [List.mem_cons, List.not_mem_nil, or_false, forall_eq_or_imp, forall_eq] at hz hb
    rcases hz with rfl | rfl | rfl | rfl | rfl <;> omega)
  have e2 : (encs (p.a.map Int.toNat)).length ≤ 640 := by
    have := encs_len (l := p.a.map Int.toNat) (fun z hz => by obtain ⟨y, hy, rfl⟩ := List.mem_map.1 hz; have := hf.2.1 y hy; omega)
    rw [List.length_map] at this
    omega
  have e3 := enc_len_le (n := p.x.length) (by omega)
  unfold bytesM encM encV
  simp only [List.length_append]
  omega
theorem write_len {l : List Mp} (h : ∀ p ∈ l, okM p = true ∧ Fits p) : (writeP l).length ≤ 67000 * l.length := by
  induction l with
  | nil => simp [writeP]
  | cons p l ih =>
    have h1 := h p (by simp)
    have h2 := ih fun q hq => h q (by simp [hq])
    have h3 := bytes_len h1.1 h1.2
    have e : writeP (p :: l) = bytesM p ++ writeP l := rfl
    rw [e, List.length_append, List.length_cons]
    omega
/-- A message from what was read. -/
def mpOf (h : List Nat) (a : List Nat) (v : List B8) : Mp := ⟨(h.getD 0 0 : Nat), (h.getD 1 0 : Nat), (h.getD 2 0 : Nat), (h.getD 3 0 : Nat), asInts a, v⟩
def readF : Nat → List B8 → Option (List Mp)
  | 0, b => if b = [] then some [] else none
  | f + 1, b => if b = [] then some [] else if (msg1 b).2.2.2.2 = 0 then (readF f (b.drop (msg1 b).2.2.2.1)).map (mpOf (msg1 b).1 (msg1 b).2.1 (msg1 b).2.2.1 :: ·) else none
theorem read_fuel : ∀ (f g : Nat) (b : List B8), b.length ≤ f → b.length ≤ g → readF f b = readF g b := by
  intro f
  induction f with
  | zero =>
    intro g b hf _
    have hb : b = [] := List.eq_nil_of_length_eq_zero (by omega)
    subst hb
    cases g <;> simp [readF]
  | succ f ih =>
    intro g b hf hg
    by_cases hb : b = []
    · subst hb
      cases g <;> simp [readF]
    · rcases g with _ | g
      · exact absurd (List.eq_nil_of_length_eq_zero (by omega)) hb
      · unfold readF
        rw [if_neg hb, if_neg hb]
        by_cases he : (msg1 b).2.2.2.2 = 0
        · rw [if_pos he, if_pos he]
          rcases hm : msg1 b with ⟨h, a, v, k, e⟩
          rw [hm] at he
          dsimp only at he ⊢
          subst he
          obtain ⟨-, -, -, -, -, -, -, -, -, h1, h2, -⟩ := msg1_one hm
          rw [ih g (b.drop k) (by rw [List.length_drop]; omega) (by rw [List.length_drop]; omega)]
        · rw [if_neg he, if_neg he]
/-- The messages that these bytes are. -/
def readP (b : List B8) : Option (List Mp) := readF b.length b
theorem read_nil : readP [] = some [] := rfl
theorem read_bad {b : List B8} {h a : List Nat} {v : List B8} {k e : Nat} (hb : b ≠ []) (hm : msg1 b = (h, a, v, k, e)) (he : e ≠ 0) : readP b = none := by
  unfold readP
  rcases hl : b.length with _ | f
  · exact absurd (List.eq_nil_of_length_eq_zero hl) hb
  · unfold readF
    rw [if_neg hb, hm, if_neg he]
theorem read_more {b : List B8} {h a : List Nat} {v : List B8} {k : Nat} (hb : b ≠ []) (hm : msg1 b = (h, a, v, k, 0)) : readP b = (readP (b.drop k)).map (mpOf h a v :: ·) := by
  obtain ⟨-, -, -, -, -, -, -, -, -, h1, h2, -⟩ := msg1_one hm
  unfold readP
  rcases hl : b.length with _ | f
  · exact absurd (List.eq_nil_of_length_eq_zero hl) hb
  · conv => lhs; unfold readF
    rw [if_neg hb, hm, if_pos rfl]
    dsimp only
    rw [read_fuel f _ (b.drop k) (by rw [List.length_drop]; omega) (Nat.le_refl _)]
/-- One read message: it can be written, it fits, its bytes are those read. -/
theorem one_read {b : List B8} {h a : List Nat} {v : List B8} {k : Nat} (hm : msg1 b = (h, a, v, k, 0)) : okM (mpOf h a v) = true ∧ Fits (mpOf h a v) ∧ bytesM (mpOf h a v) = b.take k ∧ 1 ≤ k ∧ k ≤ b.length := by
  obtain ⟨x, y, z, i, rfl, m1, m2, m3, m4, m5, m6, m7⟩ := msg1_one hm
  have b0 := m1 x (by simp)
  have b1 := m1 y (by simp)
  have b2 := m1 z (by simp)
  have b3 := m1 i (by simp)
  have hl : (asInts a).length = a.length := by simp [asInts]
  refine ⟨(ok_iff _).2 ⟨⟨Int.natCast_nonneg _, Int.natCast_nonneg _, Int.natCast_nonneg _, Int.natCast_nonneg _⟩, asInts_nonneg a, by show (asInts a).length ≤ 64; omega, m4⟩, ⟨fun w hw => ?_, fun w hw => asInts_lt m2 w hw, by show (asInts a).length ≤ _; omega⟩, ?_, m5, m6⟩
  · simp only [mpOf, List.getD_cons_zero, List.getD_cons_succ, List.mem_cons, List.not_mem_nil, or_false] at hw
    rcases hw with rfl | rfl | rfl | rfl <;> omega
  · unfold bytesM
    rw [← m7]
    show encM [Int.toNat (x : Int), Int.toNat (y : Int), Int.toNat (z : Int), Int.toNat (i : Int), (asInts a).length] ((asInts a).map Int.toNat) v = _
    rw [toNat_asInts, hl]
    rfl
theorem read_write_len : ∀ (f : Nat) (b : List B8), b.length ≤ f → ∀ pl, readP b = some pl → (∀ m ∈ pl, okM m = true ∧ Fits m) ∧ writeP pl = b := by
  intro f
  induction f with
  | zero =>
    intro b hb pl h
    have e : b = [] := List.eq_nil_of_length_eq_zero (by omega)
    subst e
    rw [read_nil] at h
    injection h with h
    subst h
    exact ⟨by simp, rfl⟩
  | succ f ih =>
    intro b hb pl h
    by_cases hn : b = []
    · subst hn
      rw [read_nil] at h
      injection h with h
      subst h
      exact ⟨by simp, rfl⟩
    · rcases hm : msg1 b with ⟨hh, a, v, k, e⟩
      by_cases he : e = 0
      · subst he
        obtain ⟨h1, h2, h3, h4, h5⟩ := one_read hm
        rw [read_more hn hm] at h
        obtain ⟨r, hr, rfl⟩ := Option.map_eq_some_iff.1 h
        obtain ⟨g1, g2⟩ := ih (b.drop k) (by rw [List.length_drop]; omega) r hr
        refine ⟨fun m hmm => ?_, ?_⟩
        · rcases List.mem_cons.1 hmm with rfl | hmm
          · exact ⟨h1, h2⟩
          · exact g1 m hmm
        · have e : writeP (mpOf hh a v :: r) = bytesM (mpOf hh a v) ++ writeP r := rfl
          rw [e, h3, g2, List.take_append_drop]
      · rw [read_bad hn hm he] at h
        cases h
theorem read_write {b : List B8} {pl : List Mp} (h : readP b = some pl) : (∀ m ∈ pl, okM m = true ∧ Fits m) ∧ writeP pl = b := read_write_len b.length b (Nat.le_refl _) pl h
theorem bytes_read {p : Mp} (h : okM p = true) (hf : Fits p) (rest : List B8) : msg1 (bytesM p ++ rest) = ([p.k.toNat, p.f.toNat, p.t.toNat, p.i.toNat, p.a.length], p.a.map Int.toNat, p.x, (bytesM p).length, 0) := by
  obtain ⟨⟨h1, h2, h3, h4⟩, h5, h6, h7⟩ := (ok_iff p).1 h
  have hb := hf.1
  have hc := hf.2.1
  simp only [List.mem_cons, List.not_mem_nil, or_false, forall_eq_or_imp, forall_eq] at hb
  have hl : (p.a.map Int.toNat).length = p.a.length := by simp
  have := msg1_enc (k := p.k.toNat) (f := p.f.toNat) (t := p.t.toNat) (i := p.i.toNat) (a := p.a.map Int.toNat) (v := p.x) (rest := rest) (by omega) (by omega) (by omega) (by omega) (fun z hz => by obtain ⟨y, hy, rfl⟩ := List.mem_map.1 hz; have := hc y hy; have := h5 y hy; omega) (by omega) h7
  rw [hl] at this
  exact this
theorem mp_back {p : Mp} (h : okM p = true) : mpOf [p.k.toNat, p.f.toNat, p.t.toNat, p.i.toNat, p.a.length] (p.a.map Int.toNat) p.x = p := by
  obtain ⟨⟨h1, h2, h3, h4⟩, h5, h6, h7⟩ := (ok_iff p).1 h
  unfold mpOf
  rw [asInts_toNat h5]
  simp only [List.getD_cons_zero, List.getD_cons_succ]
  rw [Int.toNat_of_nonneg h1, Int.toNat_of_nonneg h2, Int.toNat_of_nonneg h3, Int.toNat_of_nonneg h4]
theorem write_read {pl : List Mp} (h : ∀ p ∈ pl, okM p = true ∧ Fits p) : readP (writeP pl) = some pl := by
  induction pl with
  | nil => rfl
  | cons p pl ih =>
    obtain ⟨h1, h2⟩ := h p (by simp)
    have hr := ih fun q hq => h q (by simp [hq])
    have e : writeP (p :: pl) = bytesM p ++ writeP pl := rfl
    have hm := bytes_read h1 h2 (writeP pl)
    have hn : bytesM p ++ writeP pl ≠ [] := fun e => by
      obtain ⟨-, -, -, h4, h5⟩ := one_read hm
      have h6 := congrArg List.length e
      rw [List.length_append] at h6
      simp at h6
      rw [h6.1] at h4
      simp at h4
    rw [e, read_more hn hm, List.drop_left, hr, mp_back h1]
    rfl
end Net
end Go.Proofs.Ytamahknnppjegaa
