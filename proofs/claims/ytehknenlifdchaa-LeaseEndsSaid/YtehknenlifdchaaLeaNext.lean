/-
  A WALK: Next.
-/
import Derived.Test.YtehknenlifdchaaLeaHold
namespace Go.Proofs.Ytehknenlifdchaa
open Go.RowKit Mem
namespace Lea

theorem named_least {l : List Lv} {keys : List Int} (hr : Rises l) (hk : keys.isEmpty = false) : leastU (keys.filterMap (findL l)) = leastU (named l keys) := by
  unfold named
  rw [hk, cond_false]
  refine leastU_congr fun x => ?_
  rw [List.mem_filterMap, List.mem_filter]
  constructor
  · rintro ⟨k, hk, hf⟩
    have := find_some hf
    exact ⟨this.1, by rw [this.2]; simpa using hk⟩
  · rintro ⟨hx, hc⟩
    exact ⟨x.key, by simpa using hc, find_of hr hx⟩

set_option maxRecDepth 100000 in
set_option maxHeartbeats 6400000 in
theorem next_any {last now : Int} {A : Option Addr} {n c : Nat} {l : List Lv} {w : World} {K : Option Addr} {m kc : Nat} {keys : List Int} (h : RowL w A n c l) (hn : n ≤ 1000000) (hks : Row ci w K m kc keys) (hm : m ≤ 1000000) :
    Calls Try.prog 21 #[tv last now A n c, .slice K m kc] w fun e w' => e = .returned (.int .i64 (nextP ⟨last, now, l⟩ keys)) ∧ Below w.heap.size w w' := by
  have HR := Lib.hid h
  have HK := Lib.hid hks
  have hbig := h.big
  have hlen := Lib.hid h.len
  have hklen := Lib.hid hks.len
  have HC := fun w (h : RowL w A n c l) => Lib.hid (check_any (last := last) (now := now) h hn)
  have L1 : Hid (Below w.heap.size w (w.alloc (.cells #[.int .i64 last, .int .i64 now, .slice A n c] 24))) := (Below.refl w.heap.size w).alloc (Nat.le_refl _) _
  have B1 : Hid (TBox (w.alloc (.cells #[.int .i64 last, .int .i64 now, .slice A n c] 24)) w.heap.size last now A n c) := Cells.new w _ _
  clear h hks
  unfold nextP
  simp only
  rcases hok : okT ⟨last, now, l⟩
  · rw [hok] at HC
    go_enter Try.func21, Try.ntmps21
    go_upto_region 1 with fail
    generalize w.alloc (.cells #[.int .i64 last, .int .i64 now, .slice A n c] 24) = w1 at *
    obtain ⟨m0, m1, m2⟩ := TBox.cells B1.out
    go_wp2_with fail
    refine (HC w1 (HR.out.below L1.out)).out.mono ?_
    rintro e w2 ⟨rfl, hb⟩
    have L2 := Lib.hid (L1.out.trans (hb.mono L1.out.size))
    clear hb
    go_wp2_with fail
    go_ret
    exact ⟨rfl, L2.out⟩
  · rw [hok] at HC
    unfold errOf at HC
    simp only [cond_true] at HC
    have hri := okT_rises hok
    have HRI := Lib.hid hri
    have HF := fun key w (h : RowL w A n c l) => Lib.hid (find_any (key := key) h hri)
    clear hri
    rcases Nat.eq_zero_or_pos m with h0 | h0
    · subst h0
      have hkn : keys = [] := List.eq_nil_of_length_eq_zero hklen.out
      subst hkn
      have HE := fun w (h : RowL w A n c l) => Lib.hid (earliest_any h)
      go_enter Try.func21, Try.ntmps21
      go_upto_region 1 with fail
      generalize w.alloc (.cells #[.int .i64 last, .int .i64 now, .slice A n c] 24) = w1 at *
      obtain ⟨m0, m1, m2⟩ := TBox.cells B1.out
      go_wp2_with fail
      refine (HC w1 (HR.out.below L1.out)).out.mono ?_
      rintro e w2 ⟨rfl, hb⟩
      have L2 := Lib.hid (L1.out.trans (hb.mono L1.out.size))
      have B2 := Lib.hid (Cells.below B1.out hb)
      clear hb m0 m1 m2 B1 L1 HC
      obtain ⟨m0, m1, m2⟩ := TBox.cells B2.out
      go_wp2_with fail
      refine (HE w2 (HR.out.below L2.out)).out.mono ?_
      rintro e w3 ⟨rfl, hb⟩
      have L3 := Lib.hid (L2.out.trans (hb.mono L2.out.size))
      clear hb
      go_wp2_with fail
      go_ret
      exact ⟨rfl, L3.out⟩
    · have hke : Hid (keys.isEmpty = false) := by
        show _ = _
        rw [List.isEmpty_eq_false_iff]
        intro e
        have := hklen.out
        rw [e] at this
        simp at this; omega
      have hm0 : ¬ (m : Int) = 0 := by omega
      have hmb : (m == 0) = false := by simp; omega
      have hmi : ((m : Int) == 0) = false := by simp; omega
      go_enter Try.func21, Try.ntmps21
      go_upto_region 1 with fail
      generalize w.alloc (.cells #[.int .i64 last, .int .i64 now, .slice A n c] 24) = w1 at *
      obtain ⟨m0, m1, m2⟩ := TBox.cells B1.out
      go_wp2_with fail
      refine (HC w1 (HR.out.below L1.out)).out.mono ?_
      rintro e w2 ⟨rfl, hb⟩
      have L2 := Lib.hid (L1.out.trans (hb.mono L1.out.size))
      have B2 := Lib.hid (Cells.below B1.out hb)
      clear hb m0 m1 m2 B1 L1 HC
      go_wp2_with fail
      go_loopw [5, 7, 8, 9, 21] (fun s _ _ _ i wr => ∃ (k : Nat) (S : Option Addr) (a d : Nat), i = .int .i64 k ∧ s = .slice S a d ∧ k ≤ m ∧ a ≤ k ∧ Hid (Below w2.heap.size w2 wr ∧ OwnsL w2.heap.size wr (.slice S a d) a ((keys.take k).filterMap (findL l)))) (fun _ _ _ _ i _ => m - (intOf i).toNat)
      case atStart => exact ⟨0, none, 0, 0, rfl, rfl, by omega, by omega, Below.refl _ _, OwnsL.nil _ _⟩
      case round =>
        obtain ⟨k, S, a, d, rfl, rfl, hk, ha, hH⟩ := hrel
        by_cases hlt : k < m
        · obtain ⟨z, hz⟩ := HK.out.get hlt
          obtain ⟨b, o, hA, c0⟩ := (HK.out.below (L2.out.trans (hH.out.1.mono L2.out.size))).cell hz
          subst hA
          have c0' : wr.cell? ⟨b, o + k, none⟩ = some (.int .i64 z) := c0
          have hk0 : (0 : Int) ≤ (k : Int) := by omega
          have hkn : (k : Int) < (m : Int) := by omega
          have htk : Hid (keys.take (k + 1) = keys.take k ++ [z]) := by show _ = _; rw [List.take_add_one, hz]; rfl
          clear hz c0
          have B3 := Lib.hid (Cells.below B2.out hH.out.1)
          have RW := Lib.hid (HR.out.below (L2.out.trans (hH.out.1.mono L2.out.size)))
          obtain ⟨m0, m1, m2⟩ := TBox.cells B3.out
          have HFF := HF z
          rcases hh : heldB l z
          · rw [hh] at HFF
            have HFN := Lib.hid (find_none hh)
            go_upto_region 10 with fail
            refine (HFF wr RW.out).out.mono ?_
            rintro e w3 ⟨⟨p, rfl, hpl⟩, hb⟩
            have A3 := Lib.hid (hH.out.1.trans (hb.mono hH.out.1.size))
            have O3 := Lib.hid (hH.out.2.below hb)
            clear hb hpl m0 m1 m2 B3 RW
            go_wp2_with fail
            go_roundw
            case rel => exact ⟨k + 1, S, a, d, by go_num, rfl, by omega, by omega, A3.out, by rw [htk.out, List.filterMap_append]; simpa [HFN.out] using O3.out⟩
            case measure => simp [intOf]; omega
          · rw [hh] at HFF
            have HH := Lib.hid hh
            go_upto_region 10 with fail
            refine (HFF wr RW.out).out.mono ?_
            rintro e w3 ⟨⟨p, rfl, hpl⟩, hb⟩
            have A3 := Lib.hid (hH.out.1.trans (hb.mono hH.out.1.size))
            have O3 := Lib.hid (hH.out.2.below hb)
            obtain ⟨x, hx, -, hfx⟩ := place_held HRI.out hpl HH.out
            obtain ⟨q, u, hA, d0, d1, d2, d3⟩ := RowS.lease_at (RW.out.below hb) hx
            subst hA
            have B4 := Lib.hid (Cells.below B3.out hb)
            have HFX := Lib.hid hfx
            have hpn : p < n := by have := (List.getElem?_eq_some_iff.1 hx).1; have := hlen.out; omega
            have hp0 : (0 : Int) ≤ (p : Int) := by omega
            have hpm : (p : Int) < (n : Int) := by omega
            clear hb hpl m0 m1 m2 B3 RW hx hfx
            obtain ⟨m0, m1, m2⟩ := TBox.cells B4.out
            have A5 : Hid (Below w2.heap.size w2 (w3.alloc (.cells #[.int .i64 x.key, .int .i64 x.host, .int .i64 x.epoch, .int .i64 x.til] 43))) := A3.out.alloc A3.out.size _
            have O5 := Lib.hid (OwnsL.alloc O3.out (.cells #[.int .i64 x.key, .int .i64 x.host, .int .i64 x.epoch, .int .i64 x.til] 43))
            have Q5 : Hid (LBox (w3.alloc (.cells #[.int .i64 x.key, .int .i64 x.host, .int .i64 x.epoch, .int .i64 x.til] 43)) w3.heap.size x) := Cells.new _ _ _
            go_wp2_with (at_builtin
                         refine wpList_append_l rfl (.tmp 33) (.tmp 39) rfl rfl w2.heap.size (.slice S a d) a _ rfl O5.out _ 1 1 [x] rfl (RowS.one Q5.out) (by omega) A5.out.size ?_
                         intro A' c' w' h1 h2 h3
                         have O6 := Lib.hid h1
                         have A6 := Lib.hid (A5.out.trans (below_row O5.out h2 A5.out.size))
                         clear h1 h2 h3)
            go_roundw
            case rel => exact ⟨k + 1, A', a + 1, c', by go_num, rfl, by omega, by omega, A6.out, by rw [htk.out, List.filterMap_append]; simpa [HFX.out] using O6.out⟩
            case measure => simp [intOf]; omega
        · have hkn : keys.take k = keys := List.take_of_length_le (by have := hklen.out; omega)
          have HX : Hid (leastU (keys.filterMap (findL l)) = leastU (named l keys)) := named_least HRI.out hke.out
          have HE := Lib.hid (earliest_any (hH.out.2.row (by omega)))
          rw [hkn] at HE
          clear hkn
          go_wp2_with fail
          refine HE.out.mono ?_
          rintro e w3 ⟨rfl, hb⟩
          have L3 := Lib.hid (L2.out.trans ((hH.out.1.trans (hb.mono hH.out.1.size)).mono L2.out.size))
          clear hb
          go_wp2_with fail
          go_ret
          exact ⟨by rw [HX.out]; rfl, L3.out⟩
end Lea
end Go.Proofs.Ytehknenlifdchaa
