/-
  WALKS OVER seg'S WRITING: newFrames, frame, head, rec, Head, Rec, Seg.
-/
import Derived.Test.YtedandbkdjmfhaaSegTab
import Derived.Test.YtedandbkdjmfhaaSegCheckB
import Derived.Test.YtedandbkdjmfhaaWireRows
namespace Go.Proofs.Ytedandbkdjmfhaa
open Go.RowKit Mem
namespace Seg
open Wire

/-- A row of one's own and an error, as a call gave them; block g alone may have changed of what was there. -/
def GaveK (g : Nat) (w : World) (l : List B8) (er : Int) (en : Ending) (w' : World) : Prop :=
  ∃ A k c, en = .returned (.tuple #[.slice A k c, .int .i64 er]) ∧ Owns cb 5 w.heap.size w' (.slice A k c) k l ∧ Crc.Keep g w w'

/-- frames, as a value. -/
def frV (g : Nat) : Value := .agg #[.pointer (some ⟨g, 0, none⟩)]

theorem frozen_of {w : World} {g : Nat} {cs : Array Value} {t : TypeId} (h : w.heap[g]? = some (.cells cs t (0, 0))) (i : Nat) : w.frozen? ⟨g, i, none⟩ = false := by simp [World.frozen?, h]

set_option maxRecDepth 100000 in
/-- newFrames: a table in a block of its own. -/
theorem newFrames_any (w : World) :
    Calls Try.prog 21 #[] w fun e w' => ∃ g, w.heap.size ≤ g ∧ e = .returned (frV g) ∧ Tk g 0 w' ∧ Below w.heap.size w w' := by
  unfold frV
  go_enter Try.func21, Try.ntmps21
  go_wp2_with (go_at_call 34; refine (Crc.new_any _).mono ?_; rintro e w1 ⟨rfl, hT, hK⟩; have HT := Lib.hid hT; have HK := Lib.hid hK
               have hh : w1.heap[w.heap.size]? = some (.cells #[.pointer none] 60 (0, 0)) := (Keep.block hK (by simp) (by simp)).trans (heap_alloc_new w _)
               have c0 : w1.cell? ⟨w.heap.size, 0, none⟩ = some (.pointer none) := cell_of_row _ _ _ _ _ _ hh
               have f0 := frozen_of hh 0
               have HH := Lib.hid hh
               clear hT hK hh)
  refine bodyPost_ret_by (results_cell_row rfl _ _ w.heap.size _ _ _ _ rfl (heap_set HH.out 0 _) Try.underlying60 rfl (by kernel_rfl)) rfl ?_
  refine ⟨w.heap.size + 1, by omega, rfl, ?_, ?_⟩
  · have ht : Tk (w.heap.size + 1) 0 w1 := ⟨0, false, by have := HT.out; rwa [World.size_alloc] at this, by omega, by omega⟩
    exact ht.heap (Below.heap_setCell _ _ _ _ (by simp))
  · have hk := HK.out.low (B := w.heap.size) (by simp) (by simp)
    exact (((Below.refl _ w).alloc (Nat.le_refl _) _).trans hk).setCell (p := ⟨w.heap.size, 0, none⟩) (Nat.le_refl _) _

set_option maxRecDepth 100000 in
set_option maxHeartbeats 800000 in
theorem frame_any {g k : Nat} {A : Option Addr} {n c : Nat} {l : List B8} {w : World} (ht : Tk g k w) (hk : k ≤ 1000000000000000000) (h : RowO g w A n c l) (hn : n ≤ 65536) :
    Calls Try.prog 38 #[frV g, .slice A n c] w fun e w' => GaveK g w (frame l) 0 e w' ∧ Tk g (k + 1) w' := by
  have hg := ht.lt
  have HT := Lib.hid ht
  have HR := Lib.hid h
  have HV := fun w (h : Row cb w A n c l) => Lib.hid (vec_ok h hn)
  have hf : Hid (encV l ++ enc4 (sumOf l) = frame l) := rfl
  unfold frV
  clear ht h
  go_enter Try.func38, Try.ntmps38
  go_wp2_with fail
  have K1 := Lib.hid ((Crc.Keep.refl g w).alloc (.cells #[.pointer (some ⟨g, 0, none⟩)] 60))
  have T1 := Lib.hid (HT.out.alloc (.cells #[.pointer (some ⟨g, 0, none⟩)] 60))
  have hh := heap_alloc_new w (.cells #[.pointer (some ⟨g, 0, none⟩)] 60)
  have s1 : Hid (w.heap.size < (w.alloc (.cells #[.pointer (some ⟨g, 0, none⟩)] 60)).heap.size) := by show _ < _; simp
  generalize w.alloc (.cells #[.pointer (some ⟨g, 0, none⟩)] 60) = w1 at *
  refine (HV _ (HR.out.keep K1.out).row).out.mono ?_
  rintro e w2 ⟨X, j, d, rfl, hX, hb2⟩
  have O2 := Lib.hid (hX.mono (base' := w.heap.size) (by have := s1.out; omega))
  have K2 := Lib.hid (K1.out.trans (keep_of_below hb2))
  have T2 := Lib.hid (T1.out.below hb2)
  have h2 := (hb2.block _ s1.out).trans hh
  have c0 : w2.cell? ⟨w.heap.size, 0, none⟩ = some (.pointer (some ⟨g, 0, none⟩)) := cell_of_row _ _ _ _ _ _ h2
  clear hX hb2 h2 hh s1 K1 T1
  have hj : Hid (j ≤ 65546) := by
    have := O2.out.len
    have := enc_len_le (n := l.length) (by have := HR.out.row.len; omega)
    have := HR.out.row.len
    simp only [encV, List.length_append] at *
    show _ ≤ _
    omega
  have hs := sumOf_lt l
  have HF := fun w => Lib.hid (fixed_any (sumOf l) hs w)
  have hsum := Lib.hid (sum_one T2.out (by omega) (HR.out.keep K2.out) (c := c) rfl)
  clear HV
  go_wp2_with fail
  refine hsum.out.mono ?_
  rintro e w3 ⟨rfl, hk3, ht3⟩
  have O3 := Lib.hid (Owns.keepG O2.out hg hk3)
  have K3 := Lib.hid (K2.out.trans hk3)
  have T3 := Lib.hid ht3
  have hf2 : Hid (encV l ++ Wire.enc4 (sumOf l) = frame l) := hf
  clear hk3 ht3 O2 K2 T2 hsum c0 hs hf
  generalize sumOf l = q at *
  go_wp2_with fail
  refine (HF _).out.mono ?_
  rintro e w4 ⟨Y, j2, d2, rfl, hY, hb4⟩
  have e4 : j2 = 4 := hY.len.symm
  subst e4
  have O4 := Lib.hid (O3.out.below hb4)
  have K4 := Lib.hid (K3.out.trans (keep_of_below hb4))
  have T4 := Lib.hid (T3.out.below hb4)
  have S4 := Lib.hid K4.out.1.size
  obtain ⟨Y', c4, e5, hrow⟩ := hY.row (by omega)
  obtain ⟨rfl, -, rfl⟩ : Y = Y' ∧ 4 = 4 ∧ d2 = c4 := by simpa using e5
  have R4 := Lib.hid hrow
  clear hY hb4 e5 hrow O3 K3 T3 HF
  go_wp2_with (at_builtin; refine wpList_append_row cb_one Try.underlying27 info_byte rfl rfl (.tmp 16) (.tmp 22) rfl rfl w.heap.size (.slice X j d) j (encV l) rfl O4.out Y 4 d2 _ rfl R4.out (by have := hj.out; omega) (by have := hj.out; omega) S4.out ?_; intro A' c' w' hown' hb'; have O := Lib.hid hown'; have B := Lib.hid hb'; clear hown' hb')
  go_ret2
  exact ⟨⟨_, _, _, rfl, by rw [← hf2.out]; exact O.out, Keep.then_below K4.out B.out⟩, T4.out.heap (B.out.block _ hg)⟩

theorem GaveK.low {g : Nat} {w w' : World} {l : List B8} {er : Int} {e : Ending} (h : GaveK g w l er e w') (hg : w.heap.size ≤ g) : GaveE cb 5 w.heap.size w l er e w' := by
  obtain ⟨A, k, c, rfl, ho, hk⟩ := h
  exact ⟨A, k, c, rfl, ho, hk.low hg (Nat.le_refl _)⟩

/-- A header as a value. -/
def hdV (h : Hdr) : Value := .agg #[.int .i64 h.host, .int .i64 h.epoch, .int .i64 h.seq]

theorem nums4 (h : Hdr) (hf : fits (hnums h)) : ∀ (w : World) (b : Nat), b = w.heap.size → Hid (Calls Try.prog 36 #[.slice (some ⟨b, 0, none⟩) 4 4] (w.alloc (.cells #[.int .i64 0, .int .i64 h.host, .int .i64 h.epoch, .int .i64 h.seq] 3)) (Numbered (hnums h) (w.alloc (.cells #[.int .i64 0, .int .i64 h.host, .int .i64 h.epoch, .int .i64 h.seq] 3)))) := by
  rintro w b rfl
  exact nums_any (row_new ci w (hnums h) 3 (by simp [hnums]) rfl) hf (by simp [hnums])

set_option maxRecDepth 100000 in
set_option maxHeartbeats 800000 in
theorem head_any {g k : Nat} {h : Hdr} {w : World} (ht : Tk g k w) (hk : k ≤ 1000000000000000000) (hf : fits (hnums h)) :
    Calls Try.prog 28 #[frV g, hdV h] w fun e w' => GaveK g w (headB h).1 (headB h).2 e w' ∧ Tk g (k + 1) w' := by
  have hg := ht.lt
  have HT := Lib.hid ht
  have HN := nums4 h hf
  have HX := Lib.hid (headX_len h hf)
  have HF := fun w1 A n c (ht : Tk g k w1) (h : RowO g w1 A n c (headX h)) (hn : n ≤ 65536) => Lib.hid (frame_any ht hk h hn)
  have hb : Hid (headB h = if nn (hnums h) then (frame (headX h), 0) else ([], 1)) := rfl
  have hx : Hid (encs ((hnums h).map Int.toNat) = headX h) := rfl
  unfold frV hdV at *
  clear ht hf
  go_enter Try.func28, Try.ntmps28
  go_wp2_with fail
  have K1 := Lib.hid (((Crc.Keep.refl g w).alloc (.cells #[.pointer (some ⟨g, 0, none⟩)] 60)).alloc (.cells #[.int .i64 h.host, .int .i64 h.epoch, .int .i64 h.seq] 23))
  have T1 := Lib.hid ((HT.out.alloc (.cells #[.pointer (some ⟨g, 0, none⟩)] 60)).alloc (.cells #[.int .i64 h.host, .int .i64 h.epoch, .int .i64 h.seq] 23))
  have h1 : Hid (((w.alloc (.cells #[.pointer (some ⟨g, 0, none⟩)] 60)).alloc (.cells #[.int .i64 h.host, .int .i64 h.epoch, .int .i64 h.seq] 23)).heap[w.heap.size]? = some (.cells #[.pointer (some ⟨g, 0, none⟩)] 60 (0, 0))) := heap_alloc2_old w _ _
  have s1 : w.heap.size + 1 + 1 = ((w.alloc (.cells #[.pointer (some ⟨g, 0, none⟩)] 60)).alloc (.cells #[.int .i64 h.host, .int .i64 h.epoch, .int .i64 h.seq] 23)).heap.size := by simp
  generalize (w.alloc (.cells #[.pointer (some ⟨g, 0, none⟩)] 60)).alloc (.cells #[.int .i64 h.host, .int .i64 h.epoch, .int .i64 h.seq] 23) = w1 at *
  refine (HN w1 _ s1).out.mono ?_
  have K2 := Lib.hid (K1.out.alloc (.cells #[.int .i64 0, .int .i64 h.host, .int .i64 h.epoch, .int .i64 h.seq] 3))
  have T2 := Lib.hid (T1.out.alloc (.cells #[.int .i64 0, .int .i64 h.host, .int .i64 h.epoch, .int .i64 h.seq] 3))
  have h2 := Lib.hid ((Below.heap_alloc w1 (.cells #[.int .i64 0, .int .i64 h.host, .int .i64 h.epoch, .int .i64 h.seq] 3) w.heap.size (by omega)).trans h1.out)
  have s2 : Hid (w.heap.size < (w1.alloc (.cells #[.int .i64 0, .int .i64 h.host, .int .i64 h.epoch, .int .i64 h.seq] 3)).heap.size) := by show _ < _; simp; omega
  clear K1 T1 h1 s1
  generalize w1.alloc (.cells #[.int .i64 0, .int .i64 h.host, .int .i64 h.epoch, .int .i64 h.seq] 3) = w2 at *
  rintro e w3 (⟨hn, A, k3, c3, rfl, hO, hb3⟩ | ⟨hn, rfl, hb3⟩)
  · have hn' : Hid (nn (hnums h)) := hn
    have hb' : Hid (headB h = (frame (headX h), 0)) := by show _ = _; rw [hb.out, if_pos hn'.out]
    have O3 := Lib.hid (hO.mono (base' := w.heap.size) (by have := s2.out; omega))
    have K3 := Lib.hid (K2.out.trans (keep_of_below hb3))
    have T3 := Lib.hid (T2.out.below hb3)
    have h3 := (hb3.block _ s2.out).trans h2.out
    have c0 : w3.cell? ⟨w.heap.size, 0, none⟩ = some (.pointer (some ⟨g, 0, none⟩)) := cell_of_row _ _ _ _ _ _ h3
    have hkl : Hid (k3 ≤ 40) := by
      have h5 := O3.out.len
      have h6 := HX.out hn'.out
      rw [hx.out] at h5
      show k3 ≤ 40
      omega
    have R3 : Hid (RowO g w3 A k3 c3 (headX h)) := by
      have := O3.out
      rw [hx.out] at this
      exact RowO.of_own this (by have := hkl.out; omega) hg
    clear hn hO hb3 h3 K2 T2 h2 s2 HX hb HN
    go_wp2_with fail
    refine (HF w3 A k3 c3 T3.out R3.out (by have := hkl.out; omega)).out.mono ?_
    rintro e w4 ⟨⟨B, j, d, rfl, hO4, hK4⟩, hT4⟩
    have O4 := Lib.hid hO4
    have K4 := Lib.hid (K3.out.trans hK4)
    have S3 := Lib.hid K3.out.1.size
    have T4 := Lib.hid hT4
    clear hO4 hK4 hT4 HF
    go_wp2_with fail
    go_ret2
    exact ⟨⟨B, j, d, by rw [hb'.out]; rfl, by rw [hb'.out]; exact O4.out.mono S3.out, K4.out⟩, T4.out⟩
  · have hb' : Hid (headB h = ([], 1)) := by
      show _ = _
      rw [hb.out, if_neg (fun h => by obtain ⟨z, h1, h2⟩ := hn; have := h z h1; omega)]
    have K3 := Lib.hid (K2.out.trans (keep_of_below hb3))
    have T3 := Lib.hid (T2.out.below hb3)
    clear hn hb3 K2 T2 h2 s2 HX hb HN HF
    go_wp2_with fail
    go_ret2
    exact ⟨⟨none, 0, 0, by rw [hb'.out]; rfl, by rw [hb'.out]; exact Owns.nil _ _ _ _, K3.out⟩, T3.out.mono (by omega)⟩
end Seg
end Go.Proofs.Ytedandbkdjmfhaa
