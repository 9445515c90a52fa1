/-
  THE STATEMENT SegTurned WITHIN A BOUND (SegTurnedUpto): a record in which one byte was turned is not found, nor what stands behind it; the arguments stay as they were.
-/
import Derived.Test.YtpdmlimjhpgdiaaSegBack
namespace Go.Proofs.Ytpdmlimjhpgdiaa
open Go.ChangeShapes Go.WideShapes Go.ChangeAt Go.RowKit Mem
namespace Seg
open Wire

/-- A number's bytes: all but the last are 128 at least. -/
theorem enc_byte : ∀ (f m i : Nat), m < f → i < (enc m).length → ∃ b : B8, (enc m)[i]? = some b ∧ (128 ≤ b.toNat ↔ i + 1 < (enc m).length)
  | 0, m, i, hf, _ => by omega
  | f + 1, m, i, hf, hi => by
    by_cases h : m < 128
    · rw [enc_lt h] at hi ⊢
      simp at hi
      subst hi
      exact ⟨_, rfl, by simp [BitVec.toNat_ofNat]; omega⟩
    · rw [enc_ge (by omega)] at hi ⊢
      rcases i with _ | i
      · refine ⟨_, rfl, ?_⟩
        have := enc_pos (m / 128)
        simp [BitVec.toNat_ofNat]
        omega
      · obtain ⟨b, h1, h2⟩ := enc_byte f (m / 128) i (by omega) (by simpa using hi)
        exact ⟨b, by simpa using h1, by rw [h2]; simp⟩
theorem enc_byte_of (m i : Nat) (hi : i < (enc m).length) : ∃ b : B8, (enc m)[i]? = some b ∧ (128 ≤ b.toNat ↔ i + 1 < (enc m).length) := enc_byte (m + 1) m i (by omega) hi

/-- The bytes of one record's frame, among the others. -/
theorem amid (H : List B8) (l : List Rc) (j : Nat) (r : Rc) (hj : l[j]? = some r) : H ++ frames l = (H ++ frames (l.take j)) ++ (frame (recX r) ++ frames (l.drop (j + 1))) := by
  have hl : j < l.length := (List.getElem?_eq_some_iff.1 hj).1
  have he : l[j] = r := (List.getElem?_eq_some_iff.1 hj).2
  have e : l = l.take j ++ r :: l.drop (j + 1) := by
    rw [← he, ← List.drop_eq_getElem_cons hl, List.take_append_drop]
  conv => lhs; rw [e]
  rw [frames_append, frames_cons, List.append_assoc]
theorem amid_get (H : List B8) (l : List Rc) (j : Nat) (r : Rc) (hj : l[j]? = some r) (i : Nat) (hi : i < (frame (recX r)).length) : (H ++ frames l)[H.length + (frames (l.take j)).length + i]? = (frame (recX r))[i]? := by
  rw [amid H l j r hj, List.getElem?_append_right (by simp), List.getElem?_append_left (by simp; omega)]
  congr 1
  simp
theorem amid_set (H : List B8) (l : List Rc) (j : Nat) (r : Rc) (hj : l[j]? = some r) (i : Nat) (hi : i < (frame (recX r)).length) (y : B8) :
    (H ++ frames l).set (H.length + (frames (l.take j)).length + i) y = H ++ (frames (l.take j) ++ ((frame (recX r)).set i y ++ frames (l.drop (j + 1)))) := by
  rw [amid H l j r hj, List.set_append_right _ _ (by simp), List.set_append_left _ _ (by simp; omega), List.append_assoc]
  congr 4
  simp
theorem amid_end (l : List Rc) (j : Nat) (r : Rc) (hj : l[j]? = some r) : (frames (l.take (j + 1))).length = (frames (l.take j)).length + (frame (recX r)).length := by
  rw [List.take_add_one, hj, frames_append, List.length_append]
  simp [frames]
theorem frame_head (x : List B8) (i : Nat) (hi : i < (enc x.length).length) : (frame x)[i]? = (enc x.length)[i]? := by
  unfold frame encV
  rw [List.append_assoc, List.getElem?_append_left hi]

/-- What is found where one byte was turned. -/
theorem turned_scans (l : List Rc) (hg : ∀ r ∈ l, good r) (j : Nat) (r : Rc) (hj : l[j]? = some r) (i : Nat) (h1 : (enc (recX r).length).length ≤ i) (h2 : i < (frame (recX r)).length) (y : B8) (hy : (frame (recX r))[i]? ≠ some y) :
    Scans (frames (l.take j) ++ ((frame (recX r)).set i y ++ frames (l.drop (j + 1)))) (sized (l.take j)) := by
  have hr : good r := hg r (List.mem_of_getElem? hj)
  refine scans_frames _ (one_none (tk_turned (recX r) _ ?_ i y h1 h2 hy)) _ fun x hx => hg x (List.mem_of_mem_take hx)
  have := recX_len hr.2 hr.1
  omega
theorem xor_ne (x y : B8) (hy : y ≠ 0#8) : some x ≠ some (x ^^^ y) := by
  intro h
  apply hy
  have h := Option.some.inj h
  have h2 : x ^^^ (x ^^^ y) = x ^^^ x := by rw [← h]
  rw [← BitVec.xor_assoc, BitVec.xor_self, BitVec.zero_xor] at h2
  exact h2

set_option maxRecDepth 100000 in
set_option maxHeartbeats 3200000 in
theorem segTurned_out {h : Hdr} {A : Option Addr} {n c : Nat} {xs : List Rv} {w : World} (k at_ : Int) (yb : B8) (hr : RowR w A n c xs) (hf : fits (hnums h)) (hg : goods (xs.map Rv.r)) (hw : weigh (xs.map Rv.r) ≤ 3145728)
    (hout : 100000 < weigh (xs.map Rv.r) ∨ n = 0 ∨ yb = 0#8 ∨ segB h (xs.map Rv.r) = ([], 1) ∨ segB h (xs.map Rv.r) = ([], 2)) :
    Calls Try.prog 4 #[hdV h, .slice A n c, .int .i64 k, .int .i64 at_, .int .u8 (u yb)] w fun e w' => e = .returned (.bool true) ∧ Below w.heap.size w w' := by
  have HR := Lib.hid hr
  have hbk := bulk_weigh (l := xs.map Rv.r) (by omega)
  have HB := fun w (h : RowR w A n c xs) => Lib.hid (big_any (most := 100000) h)
  rw [hbk] at HB
  have HS := fun w (hr : RowR w A n c xs) => Lib.hid (seg_any hr hf hg (by have := frames_small hg hw; omega))
  have B1 := Lib.hid ((Below.refl _ w).alloc (Nat.le_refl _) (.cells #[.int .i64 h.host, .int .i64 h.epoch, .int .i64 h.seq] 23))
  have C1 : Hid (Cells (w.alloc (.cells #[.int .i64 h.host, .int .i64 h.epoch, .int .i64 h.seq] 23)) w.heap.size 23 #[.int .i64 h.host, .int .i64 h.epoch, .int .i64 h.seq]) := heap_alloc_new w _
  have hy0 : yb = 0#8 → u yb = 0 := fun e => by rw [e]; rfl
  have hout : 100000 < weigh (xs.map Rv.r) ∨ n = 0 ∨ u yb = 0 ∨ segB h (xs.map Rv.r) = ([], 1) ∨ segB h (xs.map Rv.r) = ([], 2) := by
    rcases hout with h | h | h | h | h
    · exact .inl h
    · exact .inr (.inl h)
    · exact .inr (.inr (.inl (hy0 h)))
    · exact .inr (.inr (.inr (.inl h)))
    · exact .inr (.inr (.inr (.inr h)))
  have hout := Lib.hid hout
  generalize u yb = yz at *
  generalize weigh (xs.map Rv.r) = S at *
  generalize segB h (xs.map Rv.r) = sg at *
  unfold hdV at *
  clear hr hf hg hbk hw hy0
  go_enter Try.func4, Try.ntmps4
  go_wp2_with fail
  generalize w.alloc (.cells #[.int .i64 h.host, .int .i64 h.epoch, .int .i64 h.seq] 23) = w1 at *
  refine (live_any w1).mono ?_
  rintro e w2 ⟨rfl, hb⟩
  have B2 := Lib.hid (B1.out.trans (hb.mono B1.out.size))
  have C2 := Lib.hid (Cells.below C1.out hb)
  clear hb B1 C1
  go_wp2_with fail
  refine (HB w2 (HR.out.below B2.out)).out.mono ?_
  rintro e w3 ⟨rfl, hb⟩
  have B3 := Lib.hid (B2.out.trans (hb.mono B2.out.size))
  have C3 := Lib.hid (Cells.below C2.out hb)
  clear hb B2 C2 HB
  by_cases hbg : 100000 < S
  · have hb2 : decide ((100000 : Int) < (S : Int)) = true := by simp; omega
    clear hbg
    go_wp2_with fail
    go_ret
    exact ⟨rfl, B3.out⟩
  · have hb2 : decide ((100000 : Int) < (S : Int)) = false := by simp; omega
    rcases Nat.eq_zero_or_pos n with hn0 | hn0
    · subst hn0
      clear hbg
      go_wp2_with fail
      go_ret
      exact ⟨rfl, B3.out⟩
    · have hb3 : ((n : Int) == 0) = false := beq_eq_false_iff_ne.2 (by omega)
      by_cases hyz : yz = 0
      · subst hyz
        clear hbg
        go_wp2_with fail
        go_ret
        exact ⟨rfl, B3.out⟩
      · have hb4 : (yz == 0) = false := beq_eq_false_iff_ne.2 hyz
        have h0 := C3.out.cell 0
        have h1 := C3.out.cell 1
        have h2 := C3.out.cell 2
        simp at h0 h1 h2
        have hsg : sg = ([], 1) ∨ sg = ([], 2) := by
          rcases hout.out with h | h | h | h
          · exact absurd h hbg
          · omega
          · exact absurd h hyz
          · exact h
        rcases hsg with rfl | rfl
        all_goals
          clear hout hbg hyz
          go_wp2_with fail
          refine (HS w3 (HR.out.below B3.out)).out.mono ?_
          rintro e w4 ⟨X, k, d, rfl, hX, hb⟩
          obtain ⟨-, rfl⟩ := gave_row (w := w) hX (by simp)
          have B4 := Lib.hid (B3.out.trans (hb.mono B3.out.size))
          clear hX hb
          simp only [List.length_nil] at *
          go_wp2_with fail
          go_ret
          exact ⟨rfl, B4.out⟩

theorem row_cell {α : Type} {f : α → Value} {w : World} {b o n c : Nat} {l : List α} (h : Row f w (some ⟨b, o, none⟩) n c l) {i : Nat} {x : α} (hi : l[i]? = some x) : w.cell? ⟨b, o + i, none⟩ = some (f x) := by
  obtain ⟨b', o', e, hc⟩ := h.cell hi
  simp only [Option.some.injEq, Addr.mk.injEq, and_true] at e
  obtain ⟨rfl, rfl⟩ := e
  exact hc
theorem owns_shape {w : World} {base n : Nat} {A : Option Addr} {m c : Nat} {l : List B8} (h : Owns cb 5 base w (.slice A m c) n l) (h0 : 0 < n) : ∃ g, A = some ⟨g, 0, none⟩ ∧ base ≤ g ∧ m = n := by
  rcases h.2 with ⟨-, hn⟩ | ⟨g, cap, cur, hs, hbg, -⟩
  · omega
  · injection hs with e1 e2 e3
    exact ⟨g, e1, hbg, e2⟩

set_option maxRecDepth 100000 in
set_option maxHeartbeats 6400000 in
theorem segTurned_good {hd : Hdr} {A : Option Addr} {n c : Nat} {xs : List Rv} {w : World} (k at_ : Int) (yb : B8) (hy : yb ≠ 0#8) (hn : 0 < n) (hr : RowR w A n c xs) (hf : fits (hnums hd)) (hg : goods (xs.map Rv.r)) (hnn : nn (hnums hd)) (hck : ∀ r ∈ xs.map Rv.r, check r = 0)
    (hw : weigh (xs.map Rv.r) ≤ 100000) :
    Calls Try.prog 4 #[hdV hd, .slice A n c, .int .i64 k, .int .i64 at_, .int .u8 (u yb)] w fun e w' => e = .returned (.bool true) ∧ Below w.heap.size w w' := by
  have HR := Lib.hid hr
  have hbk := bulk_weigh (l := xs.map Rv.r) (by omega)
  have HB := fun w (h : RowR w A n c xs) => Lib.hid (big_any (most := 100000) h)
  rw [hbk] at HB
  have hfr := frames_weigh (xs.map Rv.r) hg (fun r hr => by have := weigh_mem hr; omega)
  have HS := fun w (hr : RowR w A n c xs) => Lib.hid (seg_any hr hf hg (by omega))
  have hsg : segB hd (xs.map Rv.r) = (frame (headX hd) ++ frames (xs.map Rv.r), 0) := by
    unfold segB
    rw [if_pos hnn, recsB_ok _ hck]
    simp
  rw [hsg] at HS
  have hgd : ∀ r ∈ xs.map Rv.r, good r := fun r hr => ⟨hck r hr, hg r hr⟩
  have hhl : (frame (headX hd)).length ≤ 100 := by
    have h1 := headX_len hd hf hnn
    have h2 := frame_len (headX hd)
    have h3 := enc_len_le (n := (headX hd).length) (by omega)
    omega
  have hln : (xs.map Rv.r).length = n := by rw [List.length_map, hr.len]
  have hbl : (frame (headX hd) ++ frames (xs.map Rv.r)).length ≤ 600000 := by rw [List.length_append]; omega
  have hlb := hr.big
  obtain ⟨kr, j, c1, c2, c3, c4, c5, c6⟩ := cut_at k n hn
  obtain ⟨r, hjr⟩ : ∃ r, (xs.map Rv.r)[j]? = some r := ⟨_, List.getElem?_eq_getElem (by omega)⟩
  have hE := amid_end (xs.map Rv.r) j r hjr
  have hFL := frame_len (recX r)
  have hL0 := enc_pos (recX r).length
  obtain ⟨L, hL⟩ : ∃ L, (enc (recX r).length).length = L + 1 := ⟨(enc (recX r).length).length - 1, by omega⟩
  obtain ⟨M, hM⟩ : ∃ M, (frame (recX r)).length = L + 1 + M ∧ 0 < M := ⟨(recX r).length + 4, by omega, by omega⟩
  obtain ⟨ar, q, a1, a2, a3, a4, a5, a6⟩ := cut_at at_ M hM.2
  have hall : (frame (headX hd)).length + (frames ((xs.map Rv.r).take j)).length + (frame (recX r)).length ≤ (frame (headX hd) ++ frames (xs.map Rv.r)).length := by
    rw [amid (frame (headX hd)) (xs.map Rv.r) j r hjr]
    simp
    omega
  have hby : Hid (∀ i, i < L + 1 → ∃ b : B8, (frame (headX hd) ++ frames (xs.map Rv.r))[(frame (headX hd)).length + (frames ((xs.map Rv.r).take j)).length + i]? = some b ∧ (128 ≤ b.toNat ↔ i < L)) := by
    intro i hi
    obtain ⟨b, b1, b2⟩ := enc_byte_of (recX r).length i (by omega)
    refine ⟨b, ?_, by rw [b2]; omega⟩
    rw [amid_get _ _ j r hjr i (by omega), frame_head _ i (by omega), b1]
  obtain ⟨x0, hx0⟩ : ∃ x0, (frame (recX r))[L + 1 + q]? = some x0 := ⟨_, List.getElem?_eq_getElem (by omega)⟩
  have hP0 : (frame (headX hd) ++ frames (xs.map Rv.r))[(frame (headX hd)).length + (frames ((xs.map Rv.r).take j)).length + (L + 1 + q)]? = some x0 := by
    rw [amid_get _ _ j r hjr _ (by omega), hx0]
  have hts := turned_scans (xs.map Rv.r) hgd j r hjr (L + 1 + q) (by omega) (by omega) (x0 ^^^ yb) (by rw [hx0]; exact xor_ne x0 yb hy)
  have hset := amid_set (frame (headX hd)) (xs.map Rv.r) j r hjr (L + 1 + q) (by omega) (x0 ^^^ yb)
  have HF1 := fun X m d w (hr : Row cb w X m d (frame (headX hd) ++ frames (xs.map Rv.r))) (hm : m ≤ 1000000) => Lib.hid (scan_to (l := xs.map Rv.r) (b := frames (xs.map Rv.r)) hr hm hf hnn (by have := scans_frames [] (by simpa using one_zeros 0) _ hgd; rwa [List.append_nil] at this))
  have HF2 := fun X m d w (hr : Row cb w X m d ((frame (headX hd) ++ frames (xs.map Rv.r)).set ((frame (headX hd)).length + (frames ((xs.map Rv.r).take j)).length + (L + 1 + q)) (x0 ^^^ yb))) (hm : m ≤ 1000000) =>
    Lib.hid (scan_to (hset ▸ hr) hm hf hnn hts)
  have htl : ((xs.map Rv.r).take j).length = j := by rw [List.length_take, hln]; omega
  have hst : (starts (frame (headX hd)).length (sized (xs.map Rv.r)))[j]? = some (((frame (headX hd)).length + (frames ((xs.map Rv.r).take j)).length : Nat) : Int) := starts_get _ _ j (by omega)
  have HEq := fun w => eql_same_hdr hd w
  have HEnd := fun LA LC AA AC w hr => Lib.hid (end_any (h := hd) (l := xs.map Rv.r) (u0 := (frame (headX hd)).length) (LA := LA) (LC := LC) (AA := AA) (AC := AC) (k := j) (w := w) hr (by omega))
  have hE2 : (frame (headX hd)).length + (frames ((xs.map Rv.r).take (j + 1))).length = (frame (headX hd)).length + (frames ((xs.map Rv.r).take j)).length + (frame (recX r)).length := by omega
  rw [hE2, ← List.length_append, hln] at HEnd
  have HLEN : Hid ((frame (headX hd) ++ frames (xs.map Rv.r)).length = (frame (headX hd)).length + (frames (xs.map Rv.r)).length) := List.length_append
  have B1 := Lib.hid ((Below.refl _ w).alloc (Nat.le_refl _) (.cells #[.int .i64 hd.host, .int .i64 hd.epoch, .int .i64 hd.seq] 23))
  have C1 : Hid (Cells (w.alloc (.cells #[.int .i64 hd.host, .int .i64 hd.epoch, .int .i64 hd.seq] 23)) w.heap.size 23 #[.int .i64 hd.host, .int .i64 hd.epoch, .int .i64 hd.seq]) := heap_alloc_new w _
  unfold FndL at HF1 HF2
  rw [hln, ← List.length_append] at HF1
  rw [htl] at HF2
  have hyz : (u yb == 0) = false := by
    refine beq_eq_false_iff_ne.2 fun e => hy ?_
    exact u_inj (a := yb) (b := 0#8) e
  have hxor : bits .xor .u8 (u x0) (u yb) = u (x0 ^^^ yb) := Crc.xor_u x0 yb
  unfold hdV at *
  clear hr hf hg hbk hfr hsg hnn hck hgd hy hset hts hjr hx0 hE hE2
  rw [hM.1] at HEnd hall
  obtain ⟨-, hM0⟩ := hM
  generalize hLL : xs.map Rv.r = l at *
  have HL := Lib.hid hLL
  clear hLL
  generalize (frame (headX hd)).length + (frames (l.take j)).length = T at *
  generalize frame (headX hd) ++ frames l = bs at *
  generalize (frame (headX hd)).length = u0 at *
  obtain ⟨E, hE⟩ : ∃ E, T + (L + 1 + M) = E := ⟨_, rfl⟩
  rw [hE] at HEnd hall
  obtain ⟨P, hP⟩ : ∃ P, T + (L + 1 + q) = P := ⟨_, rfl⟩
  rw [hP] at HF2 hP0
  obtain ⟨F, hF⟩ : ∃ F, T + L = F := ⟨_, rfl⟩
  have hEF : (E : Int) - ((F : Int) + 1) = (M : Int) := by omega
  have hPF : (F : Int) + 1 + (q : Int) = (P : Int) := by omega
  have hPE : P < E := by omega
  have hTF : T ≤ F := by omega
  have hFE : F + 1 < E := by omega
  have hge1 : decide ((E : Int) ≤ (F : Int) + 1) = false := by simp; omega
  have hge2 : decide (E ≤ F + 1) = false := by simp; omega
  have hge3 : decide (bs.length < E) = false := by simp; omega
  have HT := Lib.hid hF
  have HE := Lib.hid hE
  have HP := Lib.hid hP
  have HHL := Lib.hid hL
  have HFL := Lib.hid hFL
  have HP0 := Lib.hid hP0
  have HST := Lib.hid hst
  have HNL := Lib.hid hln
  generalize weigh l = S at *
  have hb2 : decide ((100000 : Int) < (S : Int)) = false := by simp; omega
  have hb3 : ((n : Int) == 0) = false := beq_eq_false_iff_ne.2 (by omega)
  generalize hux : u x0 = x0z at *
  have HUX := Lib.hid hux
  generalize huy : u yb = yz at *
  generalize hz : u (x0 ^^^ yb) = zz at *
  have HZZ := Lib.hid hz
  clear hF hE hP hL hFL hL0 hP0 hst hln htl hw hux huy hz
  go_enter Try.func4, Try.ntmps4
  go_wp2_with fail
  generalize w.alloc (.cells #[.int .i64 hd.host, .int .i64 hd.epoch, .int .i64 hd.seq] 23) = w1 at *
  refine (live_any w1).mono ?_
  rintro e w2 ⟨rfl, hb⟩
  have B2 := Lib.hid (B1.out.trans (hb.mono B1.out.size))
  have C2 := Lib.hid (Cells.below C1.out hb)
  clear hb B1 C1
  go_wp2_with fail
  refine (HB w2 (HR.out.below B2.out)).out.mono ?_
  rintro e w3 ⟨rfl, hb⟩
  have B3 := Lib.hid (B2.out.trans (hb.mono B2.out.size))
  have C3 := Lib.hid (Cells.below C2.out hb)
  clear hb B2 C2 HB
  have h0 := C3.out.cell 0
  have h1 := C3.out.cell 1
  have h2 := C3.out.cell 2
  simp at h0 h1 h2
  go_wp2_with fail
  clear h0 h1 h2 hb2 hyz
  refine (HS w3 (HR.out.below B3.out)).out.mono ?_
  rintro e w4 ⟨X, k4, d, rfl, hX, hb⟩
  obtain ⟨hrow, rfl⟩ := gave_row (w := w) hX (by omega)
  obtain ⟨bx, ox, rfl, -, -⟩ := hrow.at_ (by omega)
  have RX := Lib.hid hrow
  have B4 := Lib.hid (B3.out.trans (hb.mono B3.out.size))
  have C4 := Lib.hid (Cells.below C3.out hb)
  clear hX hb hrow B3 C3 HS
  go_wp2_with fail
  refine (HF1 _ bs.length d w4 RX.out (by omega)).out.mono ?_
  rintro e w7 ⟨ys, LA, LC, AA, AC, rfl, f1, f2, f3, hb7⟩
  have b78 : Below w7.heap.size w7 (w7.alloc (.cells #[.bool true, .int .i64 hd.host, .int .i64 hd.epoch, .int .i64 hd.seq, .slice LA n LC, .slice AA n AC, .int .i64 (bs.length : Int)] 33)) := (Below.refl _ w7).alloc (Nat.le_refl _) _
  have D8 : Hid (Cells (w7.alloc (.cells #[.bool true, .int .i64 hd.host, .int .i64 hd.epoch, .int .i64 hd.seq, .slice LA n LC, .slice AA n AC, .int .i64 (bs.length : Int)] 33)) w7.heap.size 33 #[.bool true, .int .i64 hd.host, .int .i64 hd.epoch, .int .i64 hd.seq, .slice LA n LC, .slice AA n AC, .int .i64 (bs.length : Int)]) := heap_alloc_new w7 _
  obtain ⟨ba, oa, rfl, -, -⟩ := f2.at_ hn
  have RA := Lib.hid (f2.below b78)
  have BB8 := Lib.hid ((B4.out.trans (hb7.mono B4.out.size)).trans (b78.mono (Nat.le_trans B4.out.size hb7.size)))
  have C8 := Lib.hid (Cells.below (Cells.below C4.out hb7) b78)
  have RX8 := Lib.hid ((RX.out.below hb7).below b78)
  have hAj : (w7.alloc (.cells #[.bool true, .int .i64 hd.host, .int .i64 hd.epoch, .int .i64 hd.seq, .slice LA n LC, .slice (some ⟨ba, oa, none⟩) n AC, .int .i64 (bs.length : Int)] 33)).cell? ⟨ba, oa + j, none⟩ = some (.int .i64 (T : Int)) := row_cell RA.out HST.out
  clear f1 f2 f3 hb7 b78 HF1 B4 C4 RX
  go_wp2_with fail
  generalize (w7.alloc (.cells #[.bool true, .int .i64 hd.host, .int .i64 hd.epoch, .int .i64 hd.seq, .slice LA n LC, .slice (some ⟨ba, oa, none⟩) n AC, .int .i64 (bs.length : Int)] 33)) = w8 at *
  generalize w7.heap.size = f1 at *
  go_loopg [15] (L + 1) (fun gk x wr => ∃ (i p : Nat), gk = L + 1 - i ∧ x = .int .i64 p ∧ i ≤ L ∧ Hid (T + i = p) ∧ wr = w8)
  case atStart => exact ⟨0, T, by omega, rfl, by omega, rfl, rfl⟩
  case round =>
    obtain ⟨i, p, hgk, rfl, hi, hp, rfl⟩ := hrel
    obtain ⟨b, hb1, hb2⟩ := hby.out i (by omega)
    rw [hp.out] at hb1
    have hc := row_cell RX8.out hb1
    have hpb : decide (p < bs.length) = true := by have := hp.out; have := HT.out; simp; omega
    have hcap := RX8.out.cap
    have hpl : p < bs.length := by have := hp.out; have := HT.out; omega
    unfold cb u at hc
    generalize b.toNat = bz at *
    by_cases hlast : i < L
    · have hge : decide ((128 : Int) ≤ (bz : Int)) = true := by simp; omega
      clear hb2 hb1 hby
      go_wp2_with fail
      go_roundg (L - i)
      case measure => omega
      case rel => exact ⟨i + 1, p + 1, by omega, by go_num, by omega, by have := hp.out; show _ = _; omega, rfl⟩
    · have hge : decide ((128 : Int) ≤ (bz : Int)) = false := by simp; omega
      obtain rfl : p = F := by have := hp.out; have := HT.out; omega
      clear hb2 hb1 hby
      have D8c := Cells.seven D8.out
      obtain ⟨⟨d0, d1, d2, d3, d4, d5, d6⟩, -⟩ := D8c
      go_wp2_with fail
      clear hc hge hpb d0 d1 d2 d3 d4 d5 d6
      refine (HEnd LA LC _ AC wr RA.out).out.mono ?_
      rintro e w9 ⟨rfl, hb9⟩
      have BB9 := Lib.hid (BB8.out.trans (hb9.mono BB8.out.size))
      have C9 := Lib.hid (Cells.below C8.out hb9)
      have D9 := Lib.hid (Cells.below D8.out hb9)
      have RA9 := Lib.hid (RA.out.below hb9)
      have RX9 := Lib.hid (RX8.out.below hb9)
      have hM0' : ((M : Int) == 0) = false := beq_eq_false_iff_ne.2 (by omega)
      clear hb9 HEnd hAj RA BB8 C8 D8 RX8
      go_wp2_with (first
        | (at_builtin
           refine wpList_append_row cb_one Try.underlying27 info_byte rfl rfl (.const (.slice none 0 0)) (.tmp 106) rfl rfl w9.heap.size (.slice none 0 0) 0 [] rfl (Owns.nil _ _ _ _) (some ⟨bx, ox, none⟩) bs.length d bs rfl RX9.out (by omega) (by omega) (Nat.le_refl _) ?_
           intro A5 e5 w5 hown5 hb5
           have hO := (show World.ownsRow w5 w9.heap.size 5 1 (.slice A5 bs.length e5) bs.length (bs.map cb) by simpa [Owns] using hown5)
           obtain ⟨g, rfl, hgw, -⟩ := owns_shape hO (by omega)
           have hcP : w5.cell? ⟨g, P, none⟩ = some (.int .u8 x0z) := by
             rw [hO.cellAt P (by omega), List.getElem?_map, HP0.out, ← HUX.out]
             rfl
           have hfz := hO.frozenAt P
           have h5 : Hid (Owns cb 5 w9.heap.size (w5.setCell ⟨g, P, none⟩ (.int .u8 zz)) (.slice (some ⟨g, 0, none⟩) bs.length e5) bs.length (bs.set P (x0 ^^^ yb))) := by
             have h6 := (hO.stored P (.int .u8 zz)).1
             rw [← HZZ.out] at h6 ⊢
             show World.ownsRow _ _ _ _ _ _ _
             rw [List.map_set]
             exact h6
           have B5 : Hid (Below w9.heap.size w9 (w5.setCell ⟨g, P, none⟩ (.int .u8 zz))) := hb5.setCell (p := ⟨g, P, none⟩) hgw _
           have hPlt : P < bs.length := by omega
           clear hown5 hb5 hO hgw))
      have hsl : (bs.set P (x0 ^^^ yb)).length = bs.length := by simp
      have hrow := (gave_row (w := w) h5.out (by omega)).1
      rw [hsl] at hrow
      have R10 := Lib.hid hrow
      have BB10 := Lib.hid (BB9.out.trans (B5.out.mono BB9.out.size))
      have C10 := Lib.hid (Cells.below C9.out B5.out)
      have D10 := Lib.hid (Cells.below D9.out B5.out)
      have RA10 := Lib.hid (RA9.out.below B5.out)
      clear hsl hrow h5 hcP hfz B5 BB9 C9 D9 RA9 RX9 hxor
      generalize w5.setCell ⟨g, P, none⟩ (.int .u8 zz) = w10 at *
      refine (HF2 _ bs.length e5 w10 R10.out (by omega)).out.mono ?_
      rintro e w11 ⟨zs, LB, LD, AB, AD, rfl, g1, g2, g3, hb11⟩
      have b12 : Below w11.heap.size w11 (w11.alloc (.cells #[.bool true, .int .i64 hd.host, .int .i64 hd.epoch, .int .i64 hd.seq, .slice LB j LD, .slice AB j AD, .int .i64 (T : Int)] 33)).drew := ((Below.refl _ w11).alloc (Nat.le_refl _) _).drew
      have E12 : Hid (Cells (w11.alloc (.cells #[.bool true, .int .i64 hd.host, .int .i64 hd.epoch, .int .i64 hd.seq, .slice LB j LD, .slice AB j AD, .int .i64 (T : Int)] 33)).drew w11.heap.size 33 #[.bool true, .int .i64 hd.host, .int .i64 hd.epoch, .int .i64 hd.seq, .slice LB j LD, .slice AB j AD, .int .i64 (T : Int)]) := heap_alloc_new w11 _
      have BB12 := Lib.hid ((BB10.out.trans (hb11.mono BB10.out.size)).trans (b12.mono (Nat.le_trans BB10.out.size hb11.size)))
      have C12 := Lib.hid (Cells.below (Cells.below C10.out hb11) b12)
      have D12 := Lib.hid (Cells.below (Cells.below D10.out hb11) b12)
      have RA12 := Lib.hid ((RA10.out.below hb11).below b12)
      have RZ12 := Lib.hid (g1.below b12)
      have G3 := Lib.hid g3
      clear g1 g2 g3 hb11 b12 BB10 C10 D10 RA10 R10 HF2
      go_wp2_with fail
      generalize w11.heap.size = f2 at *
      generalize w11.alloc (.cells #[.bool true, .int .i64 hd.host, .int .i64 hd.epoch, .int .i64 hd.seq, .slice LB j LD, .slice AB j AD, .int .i64 (T : Int)] 33) = w12 at *
      have HSR := fun w' (h1 : RowR w' LB j LD zs) (h2 : RowR w' A j c (xs.take j)) => Lib.hid (sameRecs_any h1 h2 (by rw [G3.out, ← HL.out, List.map_take]))
      have hsl2 := run_headR A n c j (by have := HR.out.cap; omega)
      have hS : Hid (∀ W, Cells W f2 33 #[.bool true, .int .i64 hd.host, .int .i64 hd.epoch, .int .i64 hd.seq, .slice LB j LD, .slice AB j AD, .int .i64 (T : Int)] → Cells W w.heap.size 23 #[.int .i64 hd.host, .int .i64 hd.epoch, .int .i64 hd.seq] →
          Cells W f1 33 #[.bool true, .int .i64 hd.host, .int .i64 hd.epoch, .int .i64 hd.seq, .slice LA n LC, .slice (some ⟨ba, oa, none⟩) n AC, .int .i64 (bs.length : Int)] → Row ci W (some ⟨ba, oa, none⟩) n AC (starts u0 (sized l)) → (W.cell? ⟨f2, 0, none⟩ = some (.bool true) ∧ W.cell? ⟨f2, 1, none⟩ = some (.int .i64 hd.host) ∧ W.cell? ⟨f2, 2, none⟩ = some (.int .i64 hd.epoch) ∧ W.cell? ⟨f2, 3, none⟩ = some (.int .i64 hd.seq) ∧ W.cell? ⟨f2, 4, none⟩ = some (.slice LB j LD) ∧ W.cell? ⟨f2, 6, none⟩ = some (.int .i64 (T : Int)) ∧
        W.cell? ⟨w.heap.size, 0, none⟩ = some (.int .i64 hd.host) ∧ W.cell? ⟨w.heap.size, 1, none⟩ = some (.int .i64 hd.epoch) ∧ W.cell? ⟨w.heap.size, 2, none⟩ = some (.int .i64 hd.seq) ∧ W.cell? ⟨f1, 5, none⟩ = some (.slice (some ⟨ba, oa, none⟩) n AC) ∧ W.cell? ⟨ba, oa + j, none⟩ = some (.int .i64 (T : Int)))) := by
        intro W x1 x2 x3 x4
        exact ⟨x1.cell 0, x1.cell 1, x1.cell 2, x1.cell 3, x1.cell 4, x1.cell 6, x2.cell 0, x2.cell 1, x2.cell 2, x3.cell 5, row_cell x4 HST.out⟩
      refine wp_region_held_drew (S := fun W => W.cell? ⟨f2, 0, none⟩ = some (.bool true) ∧ W.cell? ⟨f2, 1, none⟩ = some (.int .i64 hd.host) ∧ W.cell? ⟨f2, 2, none⟩ = some (.int .i64 hd.epoch) ∧ W.cell? ⟨f2, 3, none⟩ = some (.int .i64 hd.seq) ∧ W.cell? ⟨f2, 4, none⟩ = some (.slice LB j LD) ∧ W.cell? ⟨f2, 6, none⟩ = some (.int .i64 (T : Int)) ∧
        W.cell? ⟨w.heap.size, 0, none⟩ = some (.int .i64 hd.host) ∧ W.cell? ⟨w.heap.size, 1, none⟩ = some (.int .i64 hd.epoch) ∧ W.cell? ⟨w.heap.size, 2, none⟩ = some (.int .i64 hd.seq) ∧ W.cell? ⟨f1, 5, none⟩ = some (.slice (some ⟨ba, oa, none⟩) n AC) ∧ W.cell? ⟨ba, oa + j, none⟩ = some (.int .i64 (T : Int))) (by kernel_rfl) (hS.out _ E12.out C12.out D12.out RA12.out) (fun hHeld => ?_)
      (first | (refine Reg.take 0 (v := ?_) rfl (by kernel_rfl) (by kernel_rfl) (by kernel_rfl) (fun _ _ _ h => h) (Or.inl ⟨by rfl, ?_⟩) (by assumption) ?_; rotate_left; (focus ((intro W hSW); (try dsimp only at hSW); (try go_split_ands); go_simp; (try (with_reducible rfl)); done))) | (refine Reg.take 0 (v := undef) rfl (by kernel_rfl) (by kernel_rfl) (by kernel_rfl) (fun _ _ _ h => h) (Or.inr ⟨by rfl, rfl⟩) (by assumption) ?_))
      (try simp only [Act.put, List.setIfInBounds_toArray, List.set_cons_zero, List.set_cons_succ])
      (first | (refine Reg.take 1 (v := ?_) rfl (by kernel_rfl) (by kernel_rfl) (by kernel_rfl) (fun _ _ _ h => h) (Or.inl ⟨by rfl, ?_⟩) (by assumption) ?_; rotate_left; (focus ((intro W hSW); (try dsimp only at hSW); (try go_split_ands); go_simp; (try (with_reducible rfl)); done))) | (refine Reg.take 1 (v := undef) rfl (by kernel_rfl) (by kernel_rfl) (by kernel_rfl) (fun _ _ _ h => h) (Or.inr ⟨by rfl, rfl⟩) (by assumption) ?_))
      (try simp only [Act.put, List.setIfInBounds_toArray, List.set_cons_zero, List.set_cons_succ])
      (first | (refine Reg.take 2 (v := ?_) rfl (by kernel_rfl) (by kernel_rfl) (by kernel_rfl) (fun _ _ _ h => h) (Or.inl ⟨by rfl, ?_⟩) (by assumption) ?_; rotate_left; (focus ((intro W hSW); (try dsimp only at hSW); (try go_split_ands); go_simp; (try (with_reducible rfl)); done))) | (refine Reg.take 2 (v := undef) rfl (by kernel_rfl) (by kernel_rfl) (by kernel_rfl) (fun _ _ _ h => h) (Or.inr ⟨by rfl, rfl⟩) (by assumption) ?_))
      (try simp only [Act.put, List.setIfInBounds_toArray, List.set_cons_zero, List.set_cons_succ])
      (first | (refine Reg.take 3 (v := ?_) rfl (by kernel_rfl) (by kernel_rfl) (by kernel_rfl) (fun _ _ _ h => h) (Or.inl ⟨by rfl, ?_⟩) (by assumption) ?_; rotate_left; (focus ((intro W hSW); (try dsimp only at hSW); (try go_split_ands); go_simp; (try (with_reducible rfl)); done))) | (refine Reg.take 3 (v := undef) rfl (by kernel_rfl) (by kernel_rfl) (by kernel_rfl) (fun _ _ _ h => h) (Or.inr ⟨by rfl, rfl⟩) (by assumption) ?_))
      (try simp only [Act.put, List.setIfInBounds_toArray, List.set_cons_zero, List.set_cons_succ])
      (first | (refine Reg.take 4 (v := ?_) rfl (by kernel_rfl) (by kernel_rfl) (by kernel_rfl) (fun _ _ _ h => h) (Or.inl ⟨by rfl, ?_⟩) (by assumption) ?_; rotate_left; (focus ((intro W hSW); (try dsimp only at hSW); (try go_split_ands); go_simp; (try (with_reducible rfl)); done))) | (refine Reg.take 4 (v := undef) rfl (by kernel_rfl) (by kernel_rfl) (by kernel_rfl) (fun _ _ _ h => h) (Or.inr ⟨by rfl, rfl⟩) (by assumption) ?_))
      (try simp only [Act.put, List.setIfInBounds_toArray, List.set_cons_zero, List.set_cons_succ])
      (first | (refine Reg.take 5 (v := ?_) rfl (by kernel_rfl) (by kernel_rfl) (by kernel_rfl) (fun _ _ _ h => h) (Or.inl ⟨by rfl, ?_⟩) (by assumption) ?_; rotate_left; (focus ((intro W hSW); (try dsimp only at hSW); (try go_split_ands); go_simp; (try (with_reducible rfl)); done))) | (refine Reg.take 5 (v := undef) rfl (by kernel_rfl) (by kernel_rfl) (by kernel_rfl) (fun _ _ _ h => h) (Or.inr ⟨by rfl, rfl⟩) (by assumption) ?_))
      (try simp only [Act.put, List.setIfInBounds_toArray, List.set_cons_zero, List.set_cons_succ])
      (first | (refine Reg.take 6 (v := ?_) rfl (by kernel_rfl) (by kernel_rfl) (by kernel_rfl) (fun _ _ _ h => h) (Or.inl ⟨by rfl, ?_⟩) (by assumption) ?_; rotate_left; (focus ((intro W hSW); (try dsimp only at hSW); (try go_split_ands); go_simp; (try (with_reducible rfl)); done))) | (refine Reg.take 6 (v := undef) rfl (by kernel_rfl) (by kernel_rfl) (by kernel_rfl) (fun _ _ _ h => h) (Or.inr ⟨by rfl, rfl⟩) (by assumption) ?_))
      (try simp only [Act.put, List.setIfInBounds_toArray, List.set_cons_zero, List.set_cons_succ])
      (first | (refine Reg.take 7 (v := ?_) rfl (by kernel_rfl) (by kernel_rfl) (by kernel_rfl) (fun _ _ _ h => h) (Or.inl ⟨by rfl, ?_⟩) (by assumption) ?_; rotate_left; (focus ((intro W hSW); (try dsimp only at hSW); (try go_split_ands); go_simp; (try (with_reducible rfl)); done))) | (refine Reg.take 7 (v := undef) rfl (by kernel_rfl) (by kernel_rfl) (by kernel_rfl) (fun _ _ _ h => h) (Or.inr ⟨by rfl, rfl⟩) (by assumption) ?_))
      (try simp only [Act.put, List.setIfInBounds_toArray, List.set_cons_zero, List.set_cons_succ])
      (first | (refine Reg.take 8 (v := ?_) rfl (by kernel_rfl) (by kernel_rfl) (by kernel_rfl) (fun _ _ _ h => h) (Or.inl ⟨by rfl, ?_⟩) (by assumption) ?_; rotate_left; (focus ((intro W hSW); (try dsimp only at hSW); (try go_split_ands); go_simp; (try (with_reducible rfl)); done))) | (refine Reg.take 8 (v := undef) rfl (by kernel_rfl) (by kernel_rfl) (by kernel_rfl) (fun _ _ _ h => h) (Or.inr ⟨by rfl, rfl⟩) (by assumption) ?_))
      (try simp only [Act.put, List.setIfInBounds_toArray, List.set_cons_zero, List.set_cons_succ])
      (first | (refine Reg.take 9 (v := ?_) rfl (by kernel_rfl) (by kernel_rfl) (by kernel_rfl) (fun _ _ _ h => h) (Or.inl ⟨by rfl, ?_⟩) (by assumption) ?_; rotate_left; (focus ((intro W hSW); (try dsimp only at hSW); (try go_split_ands); go_simp; (try (with_reducible rfl)); done))) | (refine Reg.take 9 (v := undef) rfl (by kernel_rfl) (by kernel_rfl) (by kernel_rfl) (fun _ _ _ h => h) (Or.inr ⟨by rfl, rfl⟩) (by assumption) ?_))
      (try simp only [Act.put, List.setIfInBounds_toArray, List.set_cons_zero, List.set_cons_succ])
      (first | (refine Reg.take 10 (v := ?_) rfl (by kernel_rfl) (by kernel_rfl) (by kernel_rfl) (fun _ _ _ h => h) (Or.inl ⟨by rfl, ?_⟩) (by assumption) ?_; rotate_left; (focus ((intro W hSW); (try dsimp only at hSW); (try go_split_ands); go_simp; (try (with_reducible rfl)); done))) | (refine Reg.take 10 (v := undef) rfl (by kernel_rfl) (by kernel_rfl) (by kernel_rfl) (fun _ _ _ h => h) (Or.inr ⟨by rfl, rfl⟩) (by assumption) ?_))
      (try simp only [Act.put, List.setIfInBounds_toArray, List.set_cons_zero, List.set_cons_succ])
      (first | (refine Reg.take 11 (v := ?_) rfl (by kernel_rfl) (by kernel_rfl) (by kernel_rfl) (fun _ _ _ h => h) (Or.inl ⟨by rfl, ?_⟩) (by assumption) ?_; rotate_left; (focus ((intro W hSW); (try dsimp only at hSW); (try go_split_ands); go_simp; (try (with_reducible rfl)); done))) | (refine Reg.take 11 (v := undef) rfl (by kernel_rfl) (by kernel_rfl) (by kernel_rfl) (fun _ _ _ h => h) (Or.inr ⟨by rfl, rfl⟩) (by assumption) ?_))
      (try simp only [Act.put, List.setIfInBounds_toArray, List.set_cons_zero, List.set_cons_succ])
      (first | (refine Reg.take 12 (v := ?_) rfl (by kernel_rfl) (by kernel_rfl) (by kernel_rfl) (fun _ _ _ h => h) (Or.inl ⟨by rfl, ?_⟩) (by assumption) ?_; rotate_left; (focus ((intro W hSW); (try dsimp only at hSW); (try go_split_ands); go_simp; (try (with_reducible rfl)); done))) | (refine Reg.take 12 (v := undef) rfl (by kernel_rfl) (by kernel_rfl) (by kernel_rfl) (fun _ _ _ h => h) (Or.inr ⟨by rfl, rfl⟩) (by assumption) ?_))
      (try simp only [Act.put, List.setIfInBounds_toArray, List.set_cons_zero, List.set_cons_succ])
      (first | (refine Reg.take 13 (v := ?_) rfl (by kernel_rfl) (by kernel_rfl) (by kernel_rfl) (fun _ _ _ h => h) (Or.inl ⟨by rfl, ?_⟩) (by assumption) ?_; rotate_left; (focus ((intro W hSW); (try dsimp only at hSW); (try go_split_ands); go_simp; (try (with_reducible rfl)); done))) | (refine Reg.take 13 (v := undef) rfl (by kernel_rfl) (by kernel_rfl) (by kernel_rfl) (fun _ _ _ h => h) (Or.inr ⟨by rfl, rfl⟩) (by assumption) ?_))
      (try simp only [Act.put, List.setIfInBounds_toArray, List.set_cons_zero, List.set_cons_succ])
      (first | (refine Reg.take 14 (v := ?_) rfl (by kernel_rfl) (by kernel_rfl) (by kernel_rfl) (fun _ _ _ h => h) (Or.inl ⟨by rfl, ?_⟩) (by assumption) ?_; rotate_left; (focus ((intro W hSW); (try dsimp only at hSW); (try go_split_ands); go_simp; (try (with_reducible rfl)); done))) | (refine Reg.take 14 (v := undef) rfl (by kernel_rfl) (by kernel_rfl) (by kernel_rfl) (fun _ _ _ h => h) (Or.inr ⟨by rfl, rfl⟩) (by assumption) ?_))
      (try simp only [Act.put, List.setIfInBounds_toArray, List.set_cons_zero, List.set_cons_succ])
      (first | (refine Reg.take 15 (v := ?_) rfl (by kernel_rfl) (by kernel_rfl) (by kernel_rfl) (fun _ _ _ h => h) (Or.inl ⟨by rfl, ?_⟩) (by assumption) ?_; rotate_left; (focus ((intro W hSW); (try dsimp only at hSW); (try go_split_ands); go_simp; (try (with_reducible rfl)); done))) | (refine Reg.take 15 (v := undef) rfl (by kernel_rfl) (by kernel_rfl) (by kernel_rfl) (fun _ _ _ h => h) (Or.inr ⟨by rfl, rfl⟩) (by assumption) ?_))
      (try simp only [Act.put, List.setIfInBounds_toArray, List.set_cons_zero, List.set_cons_succ])
      (first | (refine Reg.take 16 (v := ?_) rfl (by kernel_rfl) (by kernel_rfl) (by kernel_rfl) (fun _ _ _ h => h) (Or.inl ⟨by rfl, ?_⟩) (by assumption) ?_; rotate_left; (focus ((intro W hSW); (try dsimp only at hSW); (try go_split_ands); go_simp; (try (with_reducible rfl)); done))) | (refine Reg.take 16 (v := undef) rfl (by kernel_rfl) (by kernel_rfl) (by kernel_rfl) (fun _ _ _ h => h) (Or.inr ⟨by rfl, rfl⟩) (by assumption) ?_))
      (try simp only [Act.put, List.setIfInBounds_toArray, List.set_cons_zero, List.set_cons_succ])
      refine Reg.step 17 rfl (by kernel_rfl) (by rfl) (fun K hK => ?_)
      go_simp
      refine (HSR w12.drew RZ12.out ((HR.out.below BB12.out).head (by omega))).out.mono ?_
      rintro e w13 ⟨rfl, hb13⟩
      have BB13 := Lib.hid (BB12.out.trans (hb13.mono BB12.out.size))
      have he13 := hS.out _ (Cells.below E12.out hb13) (Cells.below C12.out hb13) (Cells.below D12.out hb13) (RA12.out.below hb13)
      refine hK.out _ _ he13 (fun hHeld2 => ?_)
      clear hK K hHeld hb13 he13
      (try simp only [Act.put, List.setIfInBounds_toArray, List.set_cons_zero, List.set_cons_succ])
      (first | (refine Reg.take 18 (v := ?_) rfl (by kernel_rfl) (by kernel_rfl) (by kernel_rfl) (fun _ _ _ h => h) (Or.inl ⟨by rfl, ?_⟩) (by assumption) ?_; rotate_left; (focus ((intro W hSW); (try dsimp only at hSW); (try go_split_ands); go_simp; (try (with_reducible rfl)); done))) | (refine Reg.take 18 (v := undef) rfl (by kernel_rfl) (by kernel_rfl) (by kernel_rfl) (fun _ _ _ h => h) (Or.inr ⟨by rfl, rfl⟩) (by assumption) ?_))
      (try simp only [Act.put, List.setIfInBounds_toArray, List.set_cons_zero, List.set_cons_succ])
      (first | (refine Reg.take 19 (v := ?_) rfl (by kernel_rfl) (by kernel_rfl) (by kernel_rfl) (fun _ _ _ h => h) (Or.inl ⟨by rfl, ?_⟩) (by assumption) ?_; rotate_left; (focus ((intro W hSW); (try dsimp only at hSW); (try go_split_ands); go_simp; (try (with_reducible rfl)); done))) | (refine Reg.take 19 (v := undef) rfl (by kernel_rfl) (by kernel_rfl) (by kernel_rfl) (fun _ _ _ h => h) (Or.inr ⟨by rfl, rfl⟩) (by assumption) ?_))
      (try simp only [Act.put, List.setIfInBounds_toArray, List.set_cons_zero, List.set_cons_succ])
      (first | (refine Reg.take 20 (v := ?_) rfl (by kernel_rfl) (by kernel_rfl) (by kernel_rfl) (fun _ _ _ h => h) (Or.inl ⟨by rfl, ?_⟩) (by assumption) ?_; rotate_left; (focus ((intro W hSW); (try dsimp only at hSW); (try go_split_ands); go_simp; (try (with_reducible rfl)); done))) | (refine Reg.take 20 (v := undef) rfl (by kernel_rfl) (by kernel_rfl) (by kernel_rfl) (fun _ _ _ h => h) (Or.inr ⟨by rfl, rfl⟩) (by assumption) ?_))
      (try simp only [Act.put, List.setIfInBounds_toArray, List.set_cons_zero, List.set_cons_succ])
      (first | (refine Reg.take 21 (v := ?_) rfl (by kernel_rfl) (by kernel_rfl) (by kernel_rfl) (fun _ _ _ h => h) (Or.inl ⟨by rfl, ?_⟩) (by assumption) ?_; rotate_left; (focus ((intro W hSW); (try dsimp only at hSW); (try go_split_ands); go_simp; (try (with_reducible rfl)); done))) | (refine Reg.take 21 (v := undef) rfl (by kernel_rfl) (by kernel_rfl) (by kernel_rfl) (fun _ _ _ h => h) (Or.inr ⟨by rfl, rfl⟩) (by assumption) ?_))
      (try simp only [Act.put, List.setIfInBounds_toArray, List.set_cons_zero, List.set_cons_succ])
      (first | (refine Reg.take 22 (v := ?_) rfl (by kernel_rfl) (by kernel_rfl) (by kernel_rfl) (fun _ _ _ h => h) (Or.inl ⟨by rfl, ?_⟩) (by assumption) ?_; rotate_left; (focus ((intro W hSW); (try dsimp only at hSW); (try go_split_ands); go_simp; (try (with_reducible rfl)); done))) | (refine Reg.take 22 (v := undef) rfl (by kernel_rfl) (by kernel_rfl) (by kernel_rfl) (fun _ _ _ h => h) (Or.inr ⟨by rfl, rfl⟩) (by assumption) ?_))
      (try simp only [Act.put, List.setIfInBounds_toArray, List.set_cons_zero, List.set_cons_succ])
      (first | (refine Reg.take 23 (v := ?_) rfl (by kernel_rfl) (by kernel_rfl) (by kernel_rfl) (fun _ _ _ h => h) (Or.inl ⟨by rfl, ?_⟩) (by assumption) ?_; rotate_left; (focus ((intro W hSW); (try dsimp only at hSW); (try go_split_ands); go_simp; (try (with_reducible rfl)); done))) | (refine Reg.take 23 (v := undef) rfl (by kernel_rfl) (by kernel_rfl) (by kernel_rfl) (fun _ _ _ h => h) (Or.inr ⟨by rfl, rfl⟩) (by assumption) ?_))
      (try simp only [Act.put, List.setIfInBounds_toArray, List.set_cons_zero, List.set_cons_succ])
      (first | (refine Reg.take 24 (v := ?_) rfl (by kernel_rfl) (by kernel_rfl) (by kernel_rfl) (fun _ _ _ h => h) (Or.inl ⟨by rfl, ?_⟩) (by assumption) ?_; rotate_left; (focus ((intro W hSW); (try dsimp only at hSW); (try go_split_ands); go_simp; (try (with_reducible rfl)); done))) | (refine Reg.take 24 (v := undef) rfl (by kernel_rfl) (by kernel_rfl) (by kernel_rfl) (fun _ _ _ h => h) (Or.inr ⟨by rfl, rfl⟩) (by assumption) ?_))
      (try simp only [Act.put, List.setIfInBounds_toArray, List.set_cons_zero, List.set_cons_succ])
      (first | (refine Reg.take 25 (v := ?_) rfl (by kernel_rfl) (by kernel_rfl) (by kernel_rfl) (fun _ _ _ h => h) (Or.inl ⟨by rfl, ?_⟩) (by assumption) ?_; rotate_left; (focus ((intro W hSW); (try dsimp only at hSW); (try go_split_ands); go_simp; (try (with_reducible rfl)); done))) | (refine Reg.take 25 (v := undef) rfl (by kernel_rfl) (by kernel_rfl) (by kernel_rfl) (fun _ _ _ h => h) (Or.inr ⟨by rfl, rfl⟩) (by assumption) ?_))
      (try simp only [Act.put, List.setIfInBounds_toArray, List.set_cons_zero, List.set_cons_succ])
      (first | (refine Reg.take 26 (v := ?_) rfl (by kernel_rfl) (by kernel_rfl) (by kernel_rfl) (fun _ _ _ h => h) (Or.inl ⟨by rfl, ?_⟩) (by assumption) ?_; rotate_left; (focus ((intro W hSW); (try dsimp only at hSW); (try go_split_ands); go_simp; (try (with_reducible rfl)); done))) | (refine Reg.take 26 (v := undef) rfl (by kernel_rfl) (by kernel_rfl) (by kernel_rfl) (fun _ _ _ h => h) (Or.inr ⟨by rfl, rfl⟩) (by assumption) ?_))
      (try simp only [Act.put, List.setIfInBounds_toArray, List.set_cons_zero, List.set_cons_succ])
      (first | (refine Reg.take 27 (v := ?_) rfl (by kernel_rfl) (by kernel_rfl) (by kernel_rfl) (fun _ _ _ h => h) (Or.inl ⟨by rfl, ?_⟩) (by assumption) ?_; rotate_left; (focus ((intro W hSW); (try dsimp only at hSW); (try go_split_ands); go_simp; (try (with_reducible rfl)); done))) | (refine Reg.take 27 (v := undef) rfl (by kernel_rfl) (by kernel_rfl) (by kernel_rfl) (fun _ _ _ h => h) (Or.inr ⟨by rfl, rfl⟩) (by assumption) ?_))
      (try simp only [Act.put, List.setIfInBounds_toArray, List.set_cons_zero, List.set_cons_succ])
      (first | (refine Reg.take 28 (v := ?_) rfl (by kernel_rfl) (by kernel_rfl) (by kernel_rfl) (fun _ _ _ h => h) (Or.inl ⟨by rfl, ?_⟩) (by assumption) ?_; rotate_left; (focus ((intro W hSW); (try dsimp only at hSW); (try go_split_ands); go_simp; (try (with_reducible rfl)); done))) | (refine Reg.take 28 (v := undef) rfl (by kernel_rfl) (by kernel_rfl) (by kernel_rfl) (fun _ _ _ h => h) (Or.inr ⟨by rfl, rfl⟩) (by assumption) ?_))
      (try simp only [Act.put, List.setIfInBounds_toArray, List.set_cons_zero, List.set_cons_succ])
      (first | (refine Reg.take 29 (v := ?_) rfl (by kernel_rfl) (by kernel_rfl) (by kernel_rfl) (fun _ _ _ h => h) (Or.inl ⟨by rfl, ?_⟩) (by assumption) ?_; rotate_left; (focus ((intro W hSW); (try dsimp only at hSW); (try go_split_ands); go_simp; (try (with_reducible rfl)); done))) | (refine Reg.take 29 (v := undef) rfl (by kernel_rfl) (by kernel_rfl) (by kernel_rfl) (fun _ _ _ h => h) (Or.inr ⟨by rfl, rfl⟩) (by assumption) ?_))
      (try simp only [Act.put, List.setIfInBounds_toArray, List.set_cons_zero, List.set_cons_succ])
      refine wpAnyH_done (by kernel_rfl) ?_ _
      clear hHeld2
      go_wp2_with fail
      go_ret
      exact ⟨rfl, BB13.out⟩

theorem segTurned_walk {h : Hdr} {A : Option Addr} {n c : Nat} {xs : List Rv} {w : World} (k at_ : Int) (yb : B8) (hr : RowR w A n c xs) (hf : fits (hnums h)) (hg : goods (xs.map Rv.r)) (hw : weigh (xs.map Rv.r) ≤ 3145728) :
    Calls Try.prog 4 #[hdV h, .slice A n c, .int .i64 k, .int .i64 at_, .int .u8 (u yb)] w fun e w' => e = .returned (.bool true) ∧ Below w.heap.size w w' := by
  by_cases hb : 100000 < weigh (xs.map Rv.r)
  · exact segTurned_out k at_ yb hr hf hg hw (.inl hb)
  · rcases Nat.eq_zero_or_pos n with hn | hn
    · exact segTurned_out k at_ yb hr hf hg hw (.inr (.inl hn))
    · by_cases hy : yb = 0#8
      · exact segTurned_out k at_ yb hr hf hg hw (.inr (.inr (.inl hy)))
      · rcases segB_cases h (xs.map Rv.r) with ⟨h1, h2, -⟩ | h1 | h1
        · exact segTurned_good k at_ yb hy hn hr hf hg h1 h2 (by omega)
        · exact segTurned_out k at_ yb hr hf hg hw (.inr (.inr (.inr (.inl h1))))
        · exact segTurned_out k at_ yb hr hf hg hw (.inr (.inr (.inr (.inr h1))))

theorem segTurned_says : Frame.Says Rows.segTurnedSpec 5 := by
  refine ⟨rfl, fun H ds h => ?_, fun H ds h => ?_, fun H ds h => ?_⟩ <;>
  · match ds, h with
    | [d1, d2, d3, d4, d5], _ => rfl

set_option maxRecDepth 100000 in
theorem segTurned_walks : Frame.WalksU 4 [23, 24, 3, 3, 5] := by
  intro H enc W args ds ps base hok hA hsz hbd
  obtain ⟨v0, vs0, d0, ds0, p0, q0, hargs, rfl, rfl, h0, r0⟩ := trodAll_cons hA
  obtain ⟨v1, vs1, d1, ds1, p1, q1, rfl, rfl, rfl, h1, r1⟩ := trodAll_cons r0
  obtain ⟨v2, vs2, d2, ds2, p2, q2, rfl, rfl, rfl, h2, r2⟩ := trodAll_cons r1
  obtain ⟨v3, vs3, d3, ds3, p3, q3, rfl, rfl, rfl, h3, r3⟩ := trodAll_cons r2
  obtain ⟨v4, vs4, d4, ds4, p4, q4, rfl, rfl, rfl, h4, r4⟩ := trodAll_cons r3
  obtain ⟨rfl, rfl, rfl⟩ := trodAll_nil r4
  obtain rfl : args = #[v0, v1, v2, v3, v4] := by cases args; simp_all
  obtain ⟨h, rfl, fh⟩ := Args.open_hdr (hok 0 _ v0 rfl rfl) h0
  obtain ⟨A, n, c, xs, rfl, hr, hg, hw⟩ := Args.open_recs (hok 1 _ v1 rfl rfl) h1 (Args.sized_arg hsz (j := 1) rfl rfl)
  obtain ⟨k, rfl, rfl, rfl, wk⟩ := open_int Try.underlying3 (hok 2 _ v2 rfl rfl) h2
  obtain ⟨at_, rfl, rfl, rfl, wa⟩ := open_int Try.underlying3 (hok 3 _ v3 rfl rfl) h3
  obtain ⟨y, rfl, rfl, rfl, wy⟩ := open_int Try.underlying5 (hok 4 _ v4 rfl rfl) h4
  simp only [Rows.uptoBulkAll] at hbd
  have hy : u (Args.byte y) = y := Args.u_byte wy
  have := segTurned_walk (w := W) k at_ (Args.byte y) hr fh hg (by unfold weigh; omega)
  rwa [hy] at this

set_option maxRecDepth 100000 in
theorem segTurned_over : Rows.segTurnedUptoRow.holds Try.pinned (Rows.OpenSpec.upto Rows.segTurnedSpec) :=
  OpenClaim.holds_of_cond 4 Try.f4 rfl rfl rfl rfl rfl rfl rfl ⟨rfl, rfl, rfl, rfl, rfl⟩ rfl rfl rfl rfl rfl (by kernel_rfl) Try.func4 (by kernel_rfl)
    (of_decide_eq_true (by kernel_rfl)) (by unfold Func.isWrapper; first | (rw [if_pos (by decide +kernel)]; kernel_rfl) | (rw [if_neg (by decide +kernel)]; exact ⟨rfl, rfl⟩))
    (fun os started H enc _ F => Frame.liftedU (started := started) F Try.underlying4 (by kernel_rfl) Try.func4 (n := 5) (by rw [Try.params4]; rfl) segTurned_says (by rw [Try.params4]; kernel_rfl) (by kernel_rfl)
      (OpenSpec.witness (enc := enc) (C := Try.checked) (s := Rows.OpenSpec.upto Rows.segTurnedSpec) (k := Rows.uptoSmall) rfl false ⟨#[], #[.agg #[.int .i64 0, .int .i64 0, .int .i64 0], .slice none 0 0, .int .i64 0, .int .i64 0, .int .u8 0], []⟩ 8 (by kernel_rfl) (by kernel_rfl) (by kernel_rfl)
        (x := ([.agg [.lit (.int .i64 0), .lit (.int .i64 0), .lit (.int .i64 0)], .nil, .lit (.int .i64 0), .lit (.int .i64 0), .lit (.int .u8 0)], [], [])) (by kernel_rfl) rfl (by kernel_rfl))
      (by rw [Try.params4]; exact segTurned_walks))
end Seg
/-- The given statement. -/
theorem segTurnedUpto_holds : Rows.SegTurnedUptoSaid := Seg.segTurned_over
end Go.Proofs.Ytpdmlimjhpgdiaa
