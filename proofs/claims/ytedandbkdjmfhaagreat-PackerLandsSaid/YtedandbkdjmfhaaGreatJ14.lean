/-
  SEVERAL TEXTS IN ONE FILE: WireRows, SegWrite, SegRec, SegHead, SegTake.
-/
import Derived.Test.YtedandbkdjmfhaaGreatJ13
import Derived.Test.YtedandbkdjmfhaaGreatJ01
import Derived.Deep.DeepCutAuto
import Derived.Lib.LazyBuf
import Derived.Laws.ResultCell
set_option linter.unusedSimpArgs false
set_option linter.unusedVariables false
/-
  wire: SEVERAL NUMBERS (Nums, TakeNums), VECTORS (Vec, TakeVec), AND THE DOCUMENT's OWN COMPARISON OF NUMBERS.
-/
namespace Go.Proofs.YtedandbkdjmfhaaGreat
open Go.RowKit Mem
namespace Wire
theorem run_eql_nil (w : World) (a : Addr) (n c : Nat) : (binOp .eql 32 (.slice (some a) n c) (.slice none 0 0)).run Tryz.prog w = .ok (.bool false) w :=
  Go.run_eql_slice_nil w _ _ (some a) n c Tryz.underlying32

set_option maxRecDepth 100000 in
theorem clone_any {a : Addr} {n c : Nat} {l : List B8} {w : World} (h : Row cb w (some a) n c l) :
    Calls Tryz.prog 23 #[.slice (some a) n c] w (Gave cb 5 w.heap.size w l) := by
  have HR := Lib.hid h
  have hb := h.big
  clear h
  have hq := run_eql_nil
  go_enter Tryz.func23, Tryz.ntmps23
  go_wp2_with (at_builtin
               refine wpList_append_row cb_one Tryz.underlying32 info_byte rfl rfl (.tmp 5) (.tmp 6) rfl rfl w.heap.size _ 0 [] rfl (Owns.made cb 5 w [] (by decide) (Nat.le_refl _)) (some a) n c l rfl (HR.out.alloc _) (by omega) (by omega) (by simp) ?_
               intro A' c' w' hown' hb'
               have O := Lib.hid (show Owns cb 5 w.heap.size w' (.slice A' n c') n l by simpa using hown')
               have B := Lib.hid hb'
               clear hown' hb')
  go_ret
  exact ⟨_, _, _, rfl, O.out, ((Below.refl _ w).alloc (Nat.le_refl _) _).trans B.out⟩

set_option maxRecDepth 100000 in
theorem vec_long {A : Option Addr} {n c : Nat} {l : List B8} {w : World} (h : Row cb w A n c l) (hn : 65536 < n) :
    Calls Tryz.prog 64 #[.slice A n c] w (GaveE cb 5 w.heap.size w [] 2) := by
  have hb := h.big
  clear h
  go_enter Tryz.func64, Tryz.ntmps64
  go_wp2
  go_ret2
  exact ⟨_, _, _, rfl, Owns.nil _ _ _ _, Below.refl _ _⟩

set_option maxRecDepth 100000 in
theorem vec_ok {A : Option Addr} {n c : Nat} {l : List B8} {w : World} (h : Row cb w A n c l) (hn : n ≤ 65536) :
    Calls Tryz.prog 64 #[.slice A n c] w (GaveE cb 5 w.heap.size w (encV l) 0) := by
  have HR := Lib.hid h
  have hwr := wrap_u64_small n (by omega)
  have HP := Lib.hid (fun w => putN_any n (by omega) w)
  have hl := enc_len_le (n := n) (by omega)
  have E : Hid (enc n ++ l = encV l) := by show _ = _; unfold encV; rw [HR.out.len]
  clear h
  generalize enc n = x at *
  go_enter Tryz.func64, Tryz.ntmps64
  go_wp2_with (first
    | (go_at_call 84; refine (HP.out _).mono ?_; rintro e w2 ⟨X, k, d, rfl, hX, hb2⟩; have hk := hX.len; have HK : Hid (k ≤ 10) := (by show k ≤ 10; omega); clear hk; have O2 := Lib.hid hX; have B2 := Lib.hid hb2; clear hX hb2)
    | (at_builtin
       refine wpList_append_row cb_one Tryz.underlying32 info_byte rfl rfl (.tmp 10) (.tmp 11) rfl rfl w.heap.size (.slice X k d) k x rfl O2.out A n c l rfl (HR.out.below B2.out) (by have := HK.out; omega) (by have := HK.out; omega) B2.out.size ?_
       intro A' c' w' hown' hb'
       have O := Lib.hid hown'
       have B := Lib.hid hb'
       clear hown' hb'))
  go_ret2
  exact ⟨_, _, _, rfl, by rw [← E.out]; exact O.out, B2.out.trans B.out⟩

/-- What TakeVec tells. -/
def TookV (v : List B8) (k e : Nat) (w : World) (en : Ending) (w' : World) : Prop :=
  ∃ B j d, en = .returned (.tuple #[.slice B j d, .int .i64 (k : Int), .int .i64 (e : Int)]) ∧ Owns cb 5 w.heap.size w' (.slice B j d) j v ∧ Below w.heap.size w w'

set_option maxRecDepth 100000 in
set_option maxHeartbeats 800000 in
theorem takeVec_at {A : Option Addr} {n c : Nat} {b : List B8} {w : World} (h : Row cb w A n c b) (hn : n ≤ 100000000) {v : List B8} {kk ee : Nat} (hi : vec1 b = (v, kk, ee)) :
    Calls Tryz.prog 38 #[.slice A n c] w (TookV v kk ee w) := by
  have HR := Lib.hid h
  have hlen := HR.out.len
  have hcap := HR.out.cap
  rcases h1 : int1 b with ⟨m, k1, e1⟩
  have H1 := Lib.hid h1
  unfold vec1 at hi
  rw [h1] at hi
  clear h h1
  by_cases he : e1 = 0
  · subst he
    simp only [if_pos] at hi
    obtain ⟨t1, hx⟩ := int1_one H1.out
    obtain ⟨y1, y2, y3, -⟩ := take1_one t1
    have y2' : k1 ≤ n := by omega
    clear t1 hx
    by_cases hb : 65536 < m
    · rw [if_pos hb] at hi
      simp only [Prod.mk.injEq] at hi
      obtain ⟨rfl, rfl, rfl⟩ := hi
      clear hlen y2
      go_enter Tryz.func38, Tryz.ntmps38
      go_wp2_with (go_at_call 59; refine (takeInt_at HR.out H1.out).mono ?_; rintro e w2 ⟨rfl, hb2⟩; have B2 := Lib.hid hb2; clear hb2)
      go_ret3
      exact ⟨none, 0, 0, rfl, Owns.nil _ _ _ _, B2.out⟩
    · rw [if_neg hb] at hi
      by_cases hs : b.length - k1 < m
      · rw [if_pos hs] at hi
        simp only [Prod.mk.injEq] at hi
        obtain ⟨rfl, rfl, rfl⟩ := hi
        have hs' : (n : Int) - (k1 : Int) < (m : Int) := by omega
        clear hlen y2 hs
        go_enter Tryz.func38, Tryz.ntmps38
        go_wp2_with (go_at_call 59; refine (takeInt_at HR.out H1.out).mono ?_; rintro e w2 ⟨rfl, hb2⟩; have B2 := Lib.hid hb2; clear hb2)
        go_ret3
        exact ⟨none, 0, 0, rfl, Owns.nil _ _ _ _, B2.out⟩
      · rw [if_neg hs] at hi
        simp only [Prod.mk.injEq] at hi
        obtain ⟨rfl, rfl, rfl⟩ := hi
        have hs' : (m : Int) ≤ (n : Int) - (k1 : Int) := by omega
        have hsn : k1 + m ≤ n := by omega
        have hsl := run_mid A n c k1 (k1 + m) (by omega) (by omega)
        rw [Nat.add_sub_cancel_left] at hsl
        have hrow := HR.out.mid (k := k1) (j := k1 + m) (by omega) hsn
        rw [Nat.add_sub_cancel_left] at hrow
        obtain ⟨a, ha⟩ : ∃ a, tailA A c k1 = some a := by
          obtain ⟨b0, o0, e0, -⟩ := HR.out.at_ (by omega)
          unfold tailA
          rw [e0]
          split
          · exact ⟨_, rfl⟩
          · exact ⟨_, rfl⟩
        rw [ha] at hsl hrow
        have hsl' : ∀ w, (Instr.slice 32 (.slice A n c) (some (.int .i64 (k1 : Int))) (some (.int .i64 ((k1 : Int) + (m : Int)))) none).run Tryz.prog w = .ok (.slice (some a) m (c - k1)) w := fun w => by have := hsl w; rwa [Int.natCast_add] at this
        have HW := Lib.hid hrow
        clear hlen y2 hs hsl hrow ha
        go_enter Tryz.func38, Tryz.ntmps38
        go_wp2_with (first
          | (go_at_call 59; refine (takeInt_at HR.out H1.out).mono ?_; rintro e w2 ⟨rfl, hb2⟩; have B2 := Lib.hid hb2; clear hb2)
          | (go_at_call 23; refine (clone_any (HW.out.below B2.out)).mono ?_; rintro e w3 ⟨X, k, d, rfl, hX, hb3⟩; have O3 := Lib.hid hX; have B3 := Lib.hid hb3; clear hX hb3))
        go_ret3
        refine ⟨X, k, d, ?_, O3.out.mono B2.out.size, B2.out.trans (B3.out.mono B2.out.size)⟩
        rw [Int.natCast_add]; rfl
  · rw [if_neg he] at hi
    simp only [Prod.mk.injEq] at hi
    obtain ⟨rfl, rfl, rfl⟩ := hi
    obtain ⟨rfl, rfl, h3⟩ := int1_bad H1.out he
    clear he hlen
    rcases h3 with rfl | rfl
    all_goals
      go_enter Tryz.func38, Tryz.ntmps38
      go_wp2_with (go_at_call 59; refine (takeInt_at HR.out H1.out).mono ?_; rintro e w2 ⟨rfl, hb2⟩; have B2 := Lib.hid hb2; clear hb2)
      go_ret3
      exact ⟨none, 0, 0, rfl, Owns.nil _ _ _ _, B2.out⟩

end Wire
end Go.Proofs.YtedandbkdjmfhaaGreat
/-
  WALKS OVER seg'S WRITING: newFrames, frame, head, rec, Head, Rec, Seg.
-/
namespace Go.Proofs.YtedandbkdjmfhaaGreat
open Go.RowKit Mem
namespace Seg
open Wire

/-- A row of one's own and an error, as a call gave them; block g alone may have changed of what was there. -/
def GaveK (g : Nat) (w : World) (l : List B8) (er : Int) (en : Ending) (w' : World) : Prop :=
  ∃ A k c, en = .returned (.tuple #[.slice A k c, .int .i64 er]) ∧ Owns cb 5 w.heap.size w' (.slice A k c) k l ∧ Crc.Keep g w w'

/-- frames, as a value. -/
def frV (g : Nat) : Value := .agg #[.pointer (some ⟨g, 0, none⟩)]

theorem frozen_of {w : World} {g : Nat} {cs : Array Value} {t : TypeId} (h : w.heap[g]? = some (.cells cs t (0, 0))) (i : Nat) : w.frozen? ⟨g, i, none⟩ = false := by simp [World.frozen?, h]

set_option maxRecDepth 100000 in
/-- newFrames: a table in a block of its own. -/
theorem newFrames_any (w : World) :
    Calls Tryz.prog 24 #[] w fun e w' => ∃ g, w.heap.size ≤ g ∧ e = .returned (frV g) ∧ Tk g 0 w' ∧ Below w.heap.size w w' := by
  unfold frV
  go_enter Tryz.func24, Tryz.ntmps24
  go_wp2_with (go_at_call 37; refine (Crc.new_any _).mono ?_; rintro e w1 ⟨rfl, hT, hK⟩; have HT := Lib.hid hT; have HK := Lib.hid hK
               have hh : w1.heap[w.heap.size]? = some (.cells #[.pointer none] 75 (0, 0)) := (Keep.block hK (by simp) (by simp)).trans (heap_alloc_new w _)
               have c0 : w1.cell? ⟨w.heap.size, 0, none⟩ = some (.pointer none) := cell_of_row _ _ _ _ _ _ hh
               have f0 := frozen_of hh 0
               have HH := Lib.hid hh
               clear hT hK hh)
  refine bodyPost_ret_by (results_cell_row rfl _ _ w.heap.size _ _ _ _ rfl (heap_set HH.out 0 _) Tryz.underlying75 rfl (by kernel_rfl)) rfl ?_
  refine ⟨w.heap.size + 1, by omega, rfl, ?_, ?_⟩
  · have ht : Tk (w.heap.size + 1) 0 w1 := ⟨0, false, by have := HT.out; rwa [World.size_alloc] at this, by omega, by omega⟩
    exact ht.heap (Below.heap_setCell _ _ _ _ (by simp))
  · have hk := HK.out.low (B := w.heap.size) (by simp) (by simp)
    exact (((Below.refl _ w).alloc (Nat.le_refl _) _).trans hk).setCell (p := ⟨w.heap.size, 0, none⟩) (Nat.le_refl _) _

set_option maxRecDepth 100000 in
set_option maxHeartbeats 800000 in
theorem frame_any {g k : Nat} {A : Option Addr} {n c : Nat} {l : List B8} {w : World} (ht : Tk g k w) (hk : k ≤ 1000000000000000000) (h : RowO g w A n c l) (hn : n ≤ 65536) :
    Calls Tryz.prog 43 #[frV g, .slice A n c] w fun e w' => GaveK g w (frame l) 0 e w' ∧ Tk g (k + 1) w' := by
  have hg := ht.lt
  have HT := Lib.hid ht
  have HR := Lib.hid h
  have HV := fun w (h : Row cb w A n c l) => Lib.hid (vec_ok h hn)
  have hf : Hid (encV l ++ enc4 (sumOf l) = frame l) := rfl
  unfold frV
  clear ht h
  go_enter Tryz.func43, Tryz.ntmps43
  go_wp2_with fail
  have K1 := Lib.hid ((Crc.Keep.refl g w).alloc (.cells #[.pointer (some ⟨g, 0, none⟩)] 75))
  have T1 := Lib.hid (HT.out.alloc (.cells #[.pointer (some ⟨g, 0, none⟩)] 75))
  have hh := heap_alloc_new w (.cells #[.pointer (some ⟨g, 0, none⟩)] 75)
  have s1 : Hid (w.heap.size < (w.alloc (.cells #[.pointer (some ⟨g, 0, none⟩)] 75)).heap.size) := by show _ < _; simp
  generalize w.alloc (.cells #[.pointer (some ⟨g, 0, none⟩)] 75) = w1 at *
  refine (HV _ (HR.out.keep K1.out).row).out.mono ?_
  rintro e w2 ⟨X, j, d, rfl, hX, hb2⟩
  have O2 := Lib.hid (hX.mono (base' := w.heap.size) (by have := s1.out; omega))
  have K2 := Lib.hid (K1.out.trans (keep_of_below hb2))
  have T2 := Lib.hid (T1.out.below hb2)
  have h2 := (hb2.block _ s1.out).trans hh
  have c0 : w2.cell? ⟨w.heap.size, 0, none⟩ = some (.pointer (some ⟨g, 0, none⟩)) := cell_of_row _ _ _ _ _ _ h2
  clear hX hb2 h2 hh s1 K1 T1
  have hj : Hid (j ≤ 65546) := by
    have := O2.out.len
    have := enc_len_le (n := l.length) (by have := HR.out.row.len; omega)
    have := HR.out.row.len
    simp only [encV, List.length_append] at *
    show _ ≤ _
    omega
  have hs := sumOf_lt l
  have HF := fun w => Lib.hid (fixed_any (sumOf l) hs w)
  have hsum := Lib.hid (sum_one T2.out (by omega) (HR.out.keep K2.out) (c := c) rfl)
  clear HV
  go_wp2_with fail
  refine hsum.out.mono ?_
  rintro e w3 ⟨rfl, hk3, ht3⟩
  have O3 := Lib.hid (Owns.keepG O2.out hg hk3)
  have K3 := Lib.hid (K2.out.trans hk3)
  have T3 := Lib.hid ht3
  have hf2 : Hid (encV l ++ Wire.enc4 (sumOf l) = frame l) := hf
  clear hk3 ht3 O2 K2 T2 hsum c0 hs hf
  generalize sumOf l = q at *
  go_wp2_with fail
  refine (HF _).out.mono ?_
  rintro e w4 ⟨Y, j2, d2, rfl, hY, hb4⟩
  have e4 : j2 = 4 := hY.len.symm
  subst e4
  have O4 := Lib.hid (O3.out.below hb4)
  have K4 := Lib.hid (K3.out.trans (keep_of_below hb4))
  have T4 := Lib.hid (T3.out.below hb4)
  have S4 := Lib.hid K4.out.1.size
  obtain ⟨Y', c4, e5, hrow⟩ := hY.row (by omega)
  obtain ⟨rfl, -, rfl⟩ : Y = Y' ∧ 4 = 4 ∧ d2 = c4 := by simpa using e5
  have R4 := Lib.hid hrow
  clear hY hb4 e5 hrow O3 K3 T3 HF
  go_wp2_with (at_builtin; refine wpList_append_row cb_one Tryz.underlying32 info_byte rfl rfl (.tmp 16) (.tmp 22) rfl rfl w.heap.size (.slice X j d) j (encV l) rfl O4.out Y 4 d2 _ rfl R4.out (by have := hj.out; omega) (by have := hj.out; omega) S4.out ?_; intro A' c' w' hown' hb'; have O := Lib.hid hown'; have B := Lib.hid hb'; clear hown' hb')
  go_ret2
  exact ⟨⟨_, _, _, rfl, by rw [← hf2.out]; exact O.out, Keep.then_below K4.out B.out⟩, T4.out.heap (B.out.block _ hg)⟩

theorem GaveK.low {g : Nat} {w w' : World} {l : List B8} {er : Int} {e : Ending} (h : GaveK g w l er e w') (hg : w.heap.size ≤ g) : GaveE cb 5 w.heap.size w l er e w' := by
  obtain ⟨A, k, c, rfl, ho, hk⟩ := h
  exact ⟨A, k, c, rfl, ho, hk.low hg (Nat.le_refl _)⟩

/-- A header as a value. -/
def hdV (h : Hdr) : Value := .agg #[.int .i64 h.host, .int .i64 h.epoch, .int .i64 h.seq]

theorem nums4 (h : Hdr) (hf : fits (hnums h)) : ∀ (w : World) (b : Nat), b = w.heap.size → Hid (Calls Tryz.prog 42 #[.slice (some ⟨b, 0, none⟩) 4 4] (w.alloc (.cells #[.int .i64 0, .int .i64 h.host, .int .i64 h.epoch, .int .i64 h.seq] 3)) (Numbered (hnums h) (w.alloc (.cells #[.int .i64 0, .int .i64 h.host, .int .i64 h.epoch, .int .i64 h.seq] 3)))) := by
  rintro w b rfl
  exact nums_any (row_new ci w (hnums h) 3 (by simp [hnums]) rfl) hf (by simp [hnums])

set_option maxRecDepth 100000 in
set_option maxHeartbeats 800000 in
theorem head_any {g k : Nat} {h : Hdr} {w : World} (ht : Tk g k w) (hk : k ≤ 1000000000000000000) (hf : fits (hnums h)) :
    Calls Tryz.prog 29 #[frV g, hdV h] w fun e w' => GaveK g w (headB h).1 (headB h).2 e w' ∧ Tk g (k + 1) w' := by
  have hg := ht.lt
  have HT := Lib.hid ht
  have HN := nums4 h hf
  have HX := Lib.hid (headX_len h hf)
  have HF := fun w1 A n c (ht : Tk g k w1) (h : RowO g w1 A n c (headX h)) (hn : n ≤ 65536) => Lib.hid (frame_any ht hk h hn)
  have hb : Hid (headB h = if nn (hnums h) then (frame (headX h), 0) else ([], 1)) := rfl
  have hx : Hid (encs ((hnums h).map Int.toNat) = headX h) := rfl
  unfold frV hdV at *
  clear ht hf
  go_enter Tryz.func29, Tryz.ntmps29
  go_wp2_with fail
  have K1 := Lib.hid (((Crc.Keep.refl g w).alloc (.cells #[.pointer (some ⟨g, 0, none⟩)] 75)).alloc (.cells #[.int .i64 h.host, .int .i64 h.epoch, .int .i64 h.seq] 23))
  have T1 := Lib.hid ((HT.out.alloc (.cells #[.pointer (some ⟨g, 0, none⟩)] 75)).alloc (.cells #[.int .i64 h.host, .int .i64 h.epoch, .int .i64 h.seq] 23))
  have h1 : Hid (((w.alloc (.cells #[.pointer (some ⟨g, 0, none⟩)] 75)).alloc (.cells #[.int .i64 h.host, .int .i64 h.epoch, .int .i64 h.seq] 23)).heap[w.heap.size]? = some (.cells #[.pointer (some ⟨g, 0, none⟩)] 75 (0, 0))) := heap_alloc2_old w _ _
  have s1 : w.heap.size + 1 + 1 = ((w.alloc (.cells #[.pointer (some ⟨g, 0, none⟩)] 75)).alloc (.cells #[.int .i64 h.host, .int .i64 h.epoch, .int .i64 h.seq] 23)).heap.size := by simp
  generalize (w.alloc (.cells #[.pointer (some ⟨g, 0, none⟩)] 75)).alloc (.cells #[.int .i64 h.host, .int .i64 h.epoch, .int .i64 h.seq] 23) = w1 at *
  refine (HN w1 _ s1).out.mono ?_
  have K2 := Lib.hid (K1.out.alloc (.cells #[.int .i64 0, .int .i64 h.host, .int .i64 h.epoch, .int .i64 h.seq] 3))
  have T2 := Lib.hid (T1.out.alloc (.cells #[.int .i64 0, .int .i64 h.host, .int .i64 h.epoch, .int .i64 h.seq] 3))
  have h2 := Lib.hid ((Below.heap_alloc w1 (.cells #[.int .i64 0, .int .i64 h.host, .int .i64 h.epoch, .int .i64 h.seq] 3) w.heap.size (by omega)).trans h1.out)
  have s2 : Hid (w.heap.size < (w1.alloc (.cells #[.int .i64 0, .int .i64 h.host, .int .i64 h.epoch, .int .i64 h.seq] 3)).heap.size) := by show _ < _; simp; omega
  clear K1 T1 h1 s1
  generalize w1.alloc (.cells #[.int .i64 0, .int .i64 h.host, .int .i64 h.epoch, .int .i64 h.seq] 3) = w2 at *
  rintro e w3 (⟨hn, A, k3, c3, rfl, hO, hb3⟩ | ⟨hn, rfl, hb3⟩)
  · have hn' : Hid (nn (hnums h)) := hn
    have hb' : Hid (headB h = (frame (headX h), 0)) := by show _ = _; rw [hb.out, if_pos hn'.out]
    have O3 := Lib.hid (hO.mono (base' := w.heap.size) (by have := s2.out; omega))
    have K3 := Lib.hid (K2.out.trans (keep_of_below hb3))
    have T3 := Lib.hid (T2.out.below hb3)
    have h3 := (hb3.block _ s2.out).trans h2.out
    have c0 : w3.cell? ⟨w.heap.size, 0, none⟩ = some (.pointer (some ⟨g, 0, none⟩)) := cell_of_row _ _ _ _ _ _ h3
    have hkl : Hid (k3 ≤ 40) := by
      have h5 := O3.out.len
      have h6 := HX.out hn'.out
      rw [hx.out] at h5
      show k3 ≤ 40
      omega
    have R3 : Hid (RowO g w3 A k3 c3 (headX h)) := by
      have := O3.out
      rw [hx.out] at this
      exact RowO.of_own this (by have := hkl.out; omega) hg
    clear hn hO hb3 h3 K2 T2 h2 s2 HX hb HN
    go_wp2_with fail
    refine (HF w3 A k3 c3 T3.out R3.out (by have := hkl.out; omega)).out.mono ?_
    rintro e w4 ⟨⟨B, j, d, rfl, hO4, hK4⟩, hT4⟩
    have O4 := Lib.hid hO4
    have K4 := Lib.hid (K3.out.trans hK4)
    have S3 := Lib.hid K3.out.1.size
    have T4 := Lib.hid hT4
    clear hO4 hK4 hT4 HF
    go_wp2_with fail
    go_ret2
    exact ⟨⟨B, j, d, by rw [hb'.out]; rfl, by rw [hb'.out]; exact O4.out.mono S3.out, K4.out⟩, T4.out⟩
  · have hb' : Hid (headB h = ([], 1)) := by
      show _ = _
      rw [hb.out, if_neg (fun h => by obtain ⟨z, h1, h2⟩ := hn; have := h z h1; omega)]
    have K3 := Lib.hid (K2.out.trans (keep_of_below hb3))
    have T3 := Lib.hid (T2.out.below hb3)
    clear hn hb3 K2 T2 h2 s2 HX hb HN HF
    go_wp2_with fail
    go_ret2
    exact ⟨⟨none, 0, 0, by rw [hb'.out]; rfl, by rw [hb'.out]; exact Owns.nil _ _ _ _, K3.out⟩, T3.out.mono (by omega)⟩
end Seg
end Go.Proofs.YtedandbkdjmfhaaGreat
/-
  WALKS OVER seg'S rec, Head AND Rec.
-/
namespace Go.Proofs.YtedandbkdjmfhaaGreat
open Go.RowKit Mem
namespace Seg
open Wire

theorem check_at {r : Rc} {e : Nat} (hc : check r = e) (hf : fits (nums r)) (D : Option Addr) (n c : Nat) (hn : r.data.length = n) (hb : n ≤ 140737488351232) (w : World) :
    Calls Tryz.prog 17 #[recV r D n c] w fun en w' => en = .returned (.int .i64 (e : Nat)) ∧ Below w.heap.size w w' := by
  rw [← hc]; exact check_any r hf D n c hn hb w

/-- What stays the same through rec: the table, the two boxes. -/
structure RS (g k : Nat) (w0 : World) (r : Rc) (D : Option Addr) (n c : Nat) (w : World) : Prop where
  keep : Crc.Keep g w0 w
  tab : Tk g k w
  fb : w.heap[w0.heap.size]? = some (.cells #[.pointer (some ⟨g, 0, none⟩)] 75 (0, 0))
  box : Box w (w0.heap.size + 1) r D n c
section
variable {g k : Nat} {w0 w w' : World} {r : Rc} {D : Option Addr} {n c : Nat}
theorem RS.below (h : RS g k w0 r D n c w) (hb : Below w.heap.size w w') : RS g k w0 r D n c w' :=
  ⟨h.keep.trans (keep_of_below hb), h.tab.below hb, (hb.block _ (Array.getElem?_eq_some_iff.1 h.fb).1).trans h.fb, h.box.below hb⟩
theorem RS.alloc (h : RS g k w0 r D n c w) (o : Obj) : RS g k w0 r D n c (w.alloc o) := h.below ((Below.refl _ w).alloc (Nat.le_refl _) o)
theorem RS.c0 (h : RS g k w0 r D n c w) : w.cell? ⟨w0.heap.size, 0, none⟩ = some (.pointer (some ⟨g, 0, none⟩)) := cell_of_row _ _ _ _ _ _ h.fb
theorem RS.size (h : RS g k w0 r D n c w) : w0.heap.size ≤ w.heap.size := h.keep.1.size
theorem RS.start (ht : Tk g k w) : RS g k w r D n c ((w.alloc (.cells #[.pointer (some ⟨g, 0, none⟩)] 75)).alloc (.cells #[.int .i64 r.kind, .int .i64 r.lba, .int .i64 r.n, .int .i64 r.ver, .int .i64 r.zone, .int .i64 r.off, .slice D n c] 57)) :=
  ⟨((Crc.Keep.refl g w).alloc _).alloc _, (ht.alloc _).alloc _, heap_alloc2_old w _ _, heap_alloc2_new w _ _⟩
end

set_option maxRecDepth 100000 in
set_option maxHeartbeats 800000 in
theorem rec_bad {g k : Nat} {r : Rc} {D : Option Addr} {n c : Nat} {w : World} (ht : Tk g k w) (hf : fits (nums r)) (h : RowO g w D n c r.data) (e : Nat) (he : e = 1 ∨ e = 2) (hc : check r = e) :
    Calls Tryz.prog 58 #[frV g, recV r D n c] w fun en w' => GaveK g w [] e en w' ∧ Tk g (k + 1) w' := by
  have HC := fun w => Lib.hid (check_at hc hf D n c h.row.len h.row.big w)
  have R1 := Lib.hid (RS.start (r := r) (D := D) (n := n) (c := c) ht)
  unfold frV recV at *
  clear ht hf h hc
  rcases he with rfl | rfl
  all_goals
    go_enter Tryz.func58, Tryz.ntmps58
    go_wp2_with fail
    generalize (w.alloc (.cells #[.pointer (some ⟨g, 0, none⟩)] 75)).alloc (.cells #[.int .i64 r.kind, .int .i64 r.lba, .int .i64 r.n, .int .i64 r.ver, .int .i64 r.zone, .int .i64 r.off, .slice D n c] 57) = w1 at *
    refine (HC w1).out.mono ?_
    rintro en w2 ⟨rfl, hb2⟩
    have R2 := Lib.hid (R1.out.below hb2)
    clear hb2 R1 HC
    go_wp2_with fail
    go_ret2
    exact ⟨⟨none, 0, 0, rfl, Owns.nil _ _ _ _, R2.out.keep⟩, R2.out.tab.mono (by omega)⟩

set_option maxRecDepth 100000 in
set_option maxHeartbeats 1600000 in
theorem rec_ok {g k : Nat} {r : Rc} {D : Option Addr} {n c : Nat} {w : World} (ht : Tk g k w) (hk : k ≤ 1000000000000000000) (hf : fits (nums r)) (h : RowO g w D n c r.data) (hc : check r = 0) :
    Calls Tryz.prog 58 #[frV g, recV r D n c] w fun en w' => GaveK g w (frame (recX r)) 0 en w' ∧ Tk g (k + 1) w' := by
  have hg := ht.lt
  obtain ⟨hnn, hd⟩ := check_ok hc
  have HC := fun w => Lib.hid (check_at hc hf D n c h.row.len h.row.big w)
  have HO := fun w => Lib.hid (numbersOf_any r D n c w)
  have HNm := fun w b (hr : Row ci w (some ⟨b, 0, none⟩) 6 6 (nums r)) => Lib.hid (nums_any hr hf (by omega))
  have HV := fun w (h : Row cb w D n c r.data) => Lib.hid (vec_ok h (by have := h.len; omega))
  have hx : Hid (encs ((nums r).map Int.toNat) ++ encV r.data = recX r) := rfl
  have hxl := recX_len hf hc
  have HF := fun w1 A n c (ht : Tk g k w1) (h : RowO g w1 A n c (recX r)) => Lib.hid (frame_any ht hk h (by have := h.row.len; omega))
  have R1 := Lib.hid (RS.start (r := r) (D := D) (n := n) (c := c) ht)
  have HR := Lib.hid h
  have HN := Lib.hid hnn
  have FN := Lib.hid (fits_nat hf hnn)
  have HX := Lib.hid hxl
  unfold frV recV numsV at *
  clear ht hf h hc hnn hxl
  go_enter Tryz.func58, Tryz.ntmps58
  go_wp2_with fail
  generalize (w.alloc (.cells #[.pointer (some ⟨g, 0, none⟩)] 75)).alloc (.cells #[.int .i64 r.kind, .int .i64 r.lba, .int .i64 r.n, .int .i64 r.ver, .int .i64 r.zone, .int .i64 r.off, .slice D n c] 57) = w1 at *
  refine (HC w1).out.mono ?_
  rintro en w2 ⟨rfl, hb2⟩
  have R2 := Lib.hid (R1.out.below hb2)
  obtain ⟨c0, c1, c2, c3, c4, c5, c6⟩ := R2.out.box.cells
  clear hb2 R1 HC
  go_wp2_with fail
  refine (HO w2).out.mono ?_
  rintro en w3 ⟨rfl, hb3⟩
  have R3 := Lib.hid (R2.out.below hb3)
  clear hb3 R2 c0 c1 c2 c3 c4 c5 c6 HO
  go_wp2_with fail
  have R4 := Lib.hid (R3.out.alloc (.cells #[.int .i64 r.kind, .int .i64 r.lba, .int .i64 r.n, .int .i64 r.ver, .int .i64 r.zone, .int .i64 r.off] 111))
  refine (HNm _ w3.heap.size (row_nums (heap_alloc_new w3 _))).out.mono ?_
  generalize w3.alloc (.cells #[.int .i64 r.kind, .int .i64 r.lba, .int .i64 r.n, .int .i64 r.ver, .int .i64 r.zone, .int .i64 r.off] 111) = w4 at *
  rintro en w5 (⟨-, X, j, d, rfl, hX, hb5⟩ | ⟨⟨z, hz, hneg⟩, -, -⟩)
  · have R5 := Lib.hid (R4.out.below hb5)
    have O5 := Lib.hid (hX.mono (base' := w.heap.size + 2) R4.out.box.lt)
    obtain ⟨c0, c1, c2, c3, c4, c5, c6⟩ := R5.out.box.cells
    have hj : Hid (j ≤ 60) := by
      have h1 := hX.len
      have h2 := encs_len (l := (nums r).map Int.toNat) (fun x hx => by
        have := FN.out x hx
        omega)
      have h3 : ((nums r).map Int.toNat).length = 6 := rfl
      show j ≤ 60
      omega
    clear hX hb5 R3 R4 HNm
    go_wp2_with fail
    refine (HV w5 (HR.out.keep R5.out.keep).row).out.mono ?_
    rintro en w6 ⟨Y, j2, d2, rfl, hY, hb6⟩
    have R6 := Lib.hid (R5.out.below hb6)
    have O6 := Lib.hid (O5.out.below hb6)
    have hj2 : Hid (j2 ≤ 40000) := by
      have h1 := hY.len
      have h2 := HX.out
      rw [← hx.out, List.length_append] at h2
      show j2 ≤ 40000
      omega
    obtain ⟨Y', c8, e5, hrow⟩ := hY.row (by have := hj2.out; omega)
    obtain ⟨rfl, -, rfl⟩ : Y = Y' ∧ j2 = j2 ∧ d2 = c8 := by simpa using e5
    have RY := Lib.hid hrow
    have e0 := R6.out.c0
    clear hY hb6 e5 hrow c0 c1 c2 c3 c4 c5 c6 R5 O5 HV
    go_wp2_with fail
    have e0d : w6.drew.cell? ⟨w.heap.size, 0, none⟩ = some (.pointer (some ⟨g, 0, none⟩)) := e0
    refine wp_region_held_drew (S := fun W => W.cell? ⟨w.heap.size, 0, none⟩ = some (.pointer (some ⟨g, 0, none⟩))) (by kernel_rfl) e0d (fun hHeld => ?_)
    refine Reg.tk 0 rfl ?_
    refine Reg.tk 1 rfl ?_
    refine Reg.tk 2 rfl ?_
    refine Reg.step 3 rfl (by kernel_rfl) (by rfl) (fun K hK => ?_)
    refine wp_append_row cb_one Tryz.underlying32 info_byte rfl (.tmp 36) (.tmp 37) rfl rfl (w.heap.size + 2) (.slice X j d) j _ rfl O6.out.drew Y j2 d2 _ rfl RY.out.drew (by have := hj.out; have := hj2.out; omega) (by have := hj.out; have := hj2.out; omega) R6.out.box.lt ?_
    intro A7 k7 w7 hO7 hb7
    rw [hx.out] at hO7
    have hb7 : Below (w.heap.size + 2) w6 w7 := (Below.refl _ w6).drew.trans hb7
    have K7 := Lib.hid (Keep.then_below R6.out.keep (hb7.mono (by omega)))
    have T7 := Lib.hid (R6.out.tab.heap (hb7.block g (by omega)))
    have e7 : w7.cell? ⟨w.heap.size, 0, none⟩ = some (.pointer (some ⟨g, 0, none⟩)) := cell_of_row _ _ _ _ _ _ ((hb7.block w.heap.size (by omega)).trans R6.out.fb)
    have O7 := Lib.hid (hO7.mono (base' := w.heap.size) (by omega))
    have R7 := Lib.hid (RowO.of_own O7.out (by have := hj.out; have := hj2.out; omega) hg)
    refine hK.out _ _ e7 (fun hHeld7 => ?_)
    clear hK K hHeld e0d e0 hO7 hb7
    (try simp only [Act.put, List.setIfInBounds_toArray, List.set_cons_zero, List.set_cons_succ])
    refine Reg.step 4 rfl (by kernel_rfl) (by rfl) (fun K hK => ?_)
    go_simp
    refine (HF w7 _ _ _ T7.out R7.out).out.mono ?_
    rintro en w8 ⟨⟨B, k8, d8, rfl, hO8, hK8⟩, hT8⟩
    have O8 := Lib.hid (hO8.mono K7.out.1.size)
    have K8 := Lib.hid (K7.out.trans hK8)
    have T8 := Lib.hid hT8
    have e8 : w8.cell? ⟨w.heap.size, 0, none⟩ = some (.pointer (some ⟨g, 0, none⟩)) := hK8.cell (p := ⟨w.heap.size, 0, none⟩) e7 (by show w.heap.size ≠ g; omega)
    refine hK.out _ _ e8 (fun hHeld8 => ?_)
    clear hK K hHeld7 e7 hO8 hK8 hT8
    (try simp only [Act.put, List.setIfInBounds_toArray, List.set_cons_zero, List.set_cons_succ])
    refine Reg.tk 5 rfl ?_
    refine Reg.tk 6 rfl ?_
    refine Reg.tk 7 rfl ?_
    refine Reg.tk 8 rfl ?_
    refine wpAnyH_done (by kernel_rfl) ?_ _
    go_wp2_with fail
    go_ret2
    exact ⟨⟨B, k8, d8, rfl, O8.out, K8.out⟩, T8.out⟩
  · exact absurd (HN.out z hz) (by omega)

set_option maxRecDepth 100000 in
theorem rec_any {g k : Nat} {r : Rc} {D : Option Addr} {n c : Nat} {w : World} (ht : Tk g k w) (hk : k ≤ 1000000000000000000) (hf : fits (nums r)) (h : RowO g w D n c r.data) :
    Calls Tryz.prog 58 #[frV g, recV r D n c] w fun en w' => GaveK g w (recB r).1 (recB r).2 en w' ∧ Tk g (k + 1) w' := by
  unfold recB
  by_cases hc : check r = 0
  · rw [if_pos hc]
    exact rec_ok ht hk hf h hc
  · rw [if_neg hc]
    refine rec_bad ht hf h (check r) ?_ rfl
    rcases check_le r with h | h | h
    · exact absurd h hc
    · exact .inl h
    · exact .inr h
end Seg
end Go.Proofs.YtedandbkdjmfhaaGreat
/-
  WALKS OVER seg'S Head AND Rec.
-/
namespace Go.Proofs.YtedandbkdjmfhaaGreat
open Go.RowKit Mem
namespace Seg
open Wire

/-- What an outer call gave: a row of its own, an error. -/
abbrev Gv (w : World) (l : List B8) (er : Int) (en : Ending) (w' : World) : Prop := GaveE cb 5 w.heap.size w l er en w'

set_option maxRecDepth 100000 in
set_option maxHeartbeats 800000 in
theorem rec_outer {r : Rc} {D : Option Addr} {n c : Nat} {w : World} (hf : fits (nums r)) (h : Row cb w D n c r.data) :
    Calls Tryz.prog 36 #[recV r D n c] w (Gv w (recB r).1 (recB r).2) := by
  have HR := Lib.hid h
  have HF := fun (g : Nat) (w : World) (ht : Tk g 0 w) (h : RowO g w D n c r.data) => Lib.hid (rec_any (n := n) (c := c) ht (by omega) hf h)
  have B1 := Lib.hid (Box.new w r D n c)
  have L1 := Lib.hid ((Below.refl w.heap.size w).alloc (Nat.le_refl _) (.cells #[.int .i64 r.kind, .int .i64 r.lba, .int .i64 r.n, .int .i64 r.ver, .int .i64 r.zone, .int .i64 r.off, .slice D n c] 57))
  unfold recV frV at *
  clear hf h
  go_enter Tryz.func36, Tryz.ntmps36
  go_wp2_with fail
  have hc := B1.out.cells
  generalize w.alloc (.cells #[.int .i64 r.kind, .int .i64 r.lba, .int .i64 r.n, .int .i64 r.ver, .int .i64 r.zone, .int .i64 r.off, .slice D n c] 57) = w1 at *
  refine wp_region_held_drew (S := fun W => W.cell? ⟨w.heap.size, 0, none⟩ = some (.int .i64 r.kind) ∧ W.cell? ⟨w.heap.size, 1, none⟩ = some (.int .i64 r.lba) ∧ W.cell? ⟨w.heap.size, 2, none⟩ = some (.int .i64 r.n) ∧ W.cell? ⟨w.heap.size, 3, none⟩ = some (.int .i64 r.ver) ∧ W.cell? ⟨w.heap.size, 4, none⟩ = some (.int .i64 r.zone) ∧ W.cell? ⟨w.heap.size, 5, none⟩ = some (.int .i64 r.off) ∧ W.cell? ⟨w.heap.size, 6, none⟩ = some (.slice D n c))
    (by kernel_rfl) hc (fun hHeld => ?_)
  refine Reg.tk 1 rfl ?_
  refine Reg.step 0 rfl (by kernel_rfl) (by rfl) (fun K hK => ?_)
  go_simp
  refine (newFrames_any _).mono ?_
  rintro e w2 ⟨g, hg, rfl, hT, hb2⟩
  unfold frV
  have hb2 : Below w1.heap.size w1 w2 := (Below.refl _ w1).drew.trans hb2
  have L2 := Lib.hid (L1.out.trans (hb2.mono L1.out.size))
  have hgl : Hid (w.heap.size ≤ g) := Nat.le_trans L1.out.size hg
  have c2 := (B1.out.below hb2).cells
  have hwg : w.heap.size < g := Nat.lt_of_lt_of_le B1.out.lt hg
  have B2 := Lib.hid (B1.out.below hb2)
  have T2 := Lib.hid hT
  refine hK.out _ _ c2 (fun hHeld2 => ?_)
  clear hK K hHeld hb2 hT hc c2
  (try simp only [Act.put, List.setIfInBounds_toArray, List.set_cons_zero, List.set_cons_succ])
  refine Reg.step 2 rfl (by kernel_rfl) (by rfl) (fun K hK => ?_)
  go_simp
  have RO : RowO g w2 D n c r.data := by
    have h0 := RowO.of_low HR.out hgl.out
    refine ⟨HR.out.below L2.out, h0.off⟩
  refine (HF g w2 T2.out RO).out.mono ?_
  rintro e w3 ⟨⟨X, j, d, rfl, hO, hK3⟩, -⟩
  have c3 := (Box.keep B2.out (Nat.ne_of_lt hwg) hK3).cells
  have L3 := Lib.hid (L2.out.trans (hK3.low (B := w.heap.size) hgl.out L2.out.size))
  have O3 := Lib.hid (hO.mono L2.out.size)
  refine hK.out _ _ c3 (fun hHeld3 => ?_)
  clear hK K hHeld2 hO hK3 HF
  (try simp only [Act.put, List.setIfInBounds_toArray, List.set_cons_zero, List.set_cons_succ])
  generalize recB r = q at *
  refine Reg.tk 3 rfl ?_
  refine Reg.tk 4 rfl ?_
  refine Reg.tk 5 rfl ?_
  refine Reg.tk 6 rfl ?_
  refine wpAnyH_done (by kernel_rfl) ?_ _
  go_wp2_with fail
  go_ret2
  exact ⟨X, j, d, rfl, O3.out, L3.out⟩

/-- A header in a block of its own. -/
theorem hbox_cells {w : World} {g : Nat} {h : Hdr} (hb : w.heap[g]? = some (.cells #[.int .i64 h.host, .int .i64 h.epoch, .int .i64 h.seq] 23 (0, 0))) :
    w.cell? ⟨g, 0, none⟩ = some (.int .i64 h.host) ∧ w.cell? ⟨g, 1, none⟩ = some (.int .i64 h.epoch) ∧ w.cell? ⟨g, 2, none⟩ = some (.int .i64 h.seq) := by
  have hc := fun i => cell_of_row w g i _ _ _ hb
  exact ⟨hc 0, hc 1, hc 2⟩

set_option maxRecDepth 100000 in
set_option maxHeartbeats 800000 in
theorem head_outer {h : Hdr} {w : World} (hf : fits (hnums h)) :
    Calls Tryz.prog 14 #[hdV h] w (Gv w (headB h).1 (headB h).2) := by
  have HF := fun (g : Nat) (w : World) (ht : Tk g 0 w) => Lib.hid (head_any ht (by omega) hf)
  have B1 : Hid ((w.alloc (.cells #[.int .i64 h.host, .int .i64 h.epoch, .int .i64 h.seq] 23)).heap[w.heap.size]? = some (.cells #[.int .i64 h.host, .int .i64 h.epoch, .int .i64 h.seq] 23 (0, 0))) := heap_alloc_new w _
  have L1 := Lib.hid ((Below.refl w.heap.size w).alloc (Nat.le_refl _) (.cells #[.int .i64 h.host, .int .i64 h.epoch, .int .i64 h.seq] 23))
  have S1 : Hid (w.heap.size < (w.alloc (.cells #[.int .i64 h.host, .int .i64 h.epoch, .int .i64 h.seq] 23)).heap.size) := by show _ < _; simp
  unfold hdV frV at *
  clear hf
  go_enter Tryz.func14, Tryz.ntmps14
  go_wp2_with fail
  have hc := hbox_cells B1.out
  generalize w.alloc (.cells #[.int .i64 h.host, .int .i64 h.epoch, .int .i64 h.seq] 23) = w1 at *
  refine wp_region_held_drew (S := fun W => W.cell? ⟨w.heap.size, 0, none⟩ = some (.int .i64 h.host) ∧ W.cell? ⟨w.heap.size, 1, none⟩ = some (.int .i64 h.epoch) ∧ W.cell? ⟨w.heap.size, 2, none⟩ = some (.int .i64 h.seq))
    (by kernel_rfl) hc (fun hHeld => ?_)
  refine Reg.tk 1 rfl ?_
  refine Reg.step 0 rfl (by kernel_rfl) (by rfl) (fun K hK => ?_)
  go_simp
  refine (newFrames_any _).mono ?_
  rintro e w2 ⟨g, hg, rfl, hT, hb2⟩
  unfold frV
  have hb2 : Below w1.heap.size w1 w2 := (Below.refl _ w1).drew.trans hb2
  have L2 := Lib.hid (L1.out.trans (hb2.mono L1.out.size))
  have hgl : Hid (w.heap.size ≤ g) := Nat.le_trans L1.out.size hg
  have B2 := Lib.hid ((hb2.block _ S1.out).trans B1.out)
  have hwg : w.heap.size < g := Nat.lt_of_lt_of_le S1.out hg
  have S2 := Lib.hid (Nat.lt_of_lt_of_le S1.out hb2.size)
  have T2 := Lib.hid hT
  refine hK.out _ _ (hbox_cells B2.out) (fun hHeld2 => ?_)
  clear hK K hHeld hb2 hT hc
  (try simp only [Act.put, List.setIfInBounds_toArray, List.set_cons_zero, List.set_cons_succ])
  refine Reg.step 2 rfl (by kernel_rfl) (by rfl) (fun K hK => ?_)
  go_simp
  refine (HF g w2 T2.out).out.mono ?_
  rintro e w3 ⟨⟨X, j, d, rfl, hO, hK3⟩, -⟩
  have B3 := (Keep.block hK3 S2.out (Nat.ne_of_lt hwg)).trans B2.out
  have L3 := Lib.hid (L2.out.trans (hK3.low (B := w.heap.size) hgl.out L2.out.size))
  have O3 := Lib.hid (hO.mono L2.out.size)
  refine hK.out _ _ (hbox_cells B3) (fun hHeld3 => ?_)
  clear hK K hHeld2 hO hK3 HF B3
  (try simp only [Act.put, List.setIfInBounds_toArray, List.set_cons_zero, List.set_cons_succ])
  generalize headB h = q at *
  refine Reg.tk 3 rfl ?_
  refine Reg.tk 4 rfl ?_
  refine Reg.tk 5 rfl ?_
  refine Reg.tk 6 rfl ?_
  refine wpAnyH_done (by kernel_rfl) ?_ _
  go_wp2_with fail
  go_ret2
  exact ⟨X, j, d, rfl, O3.out, L3.out⟩
end Seg
end Go.Proofs.YtedandbkdjmfhaaGreat
/-
  WALKS OVER seg'S READING: take, takeHead, takeRec.
-/
namespace Go.Proofs.YtedandbkdjmfhaaGreat
open Go.RowKit Mem
namespace Seg
open Wire

theorem takeFixed_at {A : Option Addr} {n c : Nat} {l : List B8} {w : World} (h : Row cb w A n c l) {v e : Nat} (hf : (four l = none ∧ v = 0 ∧ e = 20) ∨ (four l = some v ∧ e = 0)) :
    Calls Tryz.prog 39 #[.slice A n c] w (TookF v e w) := by
  rcases hf with ⟨h4, rfl, rfl⟩ | ⟨h4, rfl⟩
  · refine takeFixed_short h ?_
    rw [← h.len]
    match l, h4 with
    | [], _ => simp
    | [_], _ => simp
    | [_, _], _ => simp
    | [_, _, _], _ => simp
  · match l, h4, h with
    | x :: y :: z :: u :: r, h4, h =>
      have e : v = Wire.dec4 x y z u := by simp only [four, Option.some.injEq] at h4; exact h4.symm
      subst e
      exact takeFixed_long h

/-- What take tells. -/
def TookK (g : Nat) (w : World) (o : Option (List B8 × Nat)) (en : Ending) (w' : World) : Prop :=
  (match o with
   | none => en = .returned (.tuple #[.slice none 0 0, .int .i64 0, .bool false])
   | some (x, k) => ∃ B j d, en = .returned (.tuple #[.slice B j d, .int .i64 (k : Int), .bool true]) ∧ Owns cb 5 w.heap.size w' (.slice B j d) j x) ∧ Crc.Keep g w w'

set_option maxRecDepth 100000 in
set_option maxHeartbeats 1600000 in
theorem take_any {g k : Nat} {A : Option Addr} {n c : Nat} {b : List B8} {w : World} (ht : Tk g k w) (hk : k ≤ 1000000000000000000) (h : RowO g w A n c b) (hn : n ≤ 1000000) :
    Calls Tryz.prog 25 #[frV g, .slice A n c] w fun en w' => TookK g w (tk b) en w' ∧ Tk g (k + 1) w' := by
  have hg := ht.lt
  have HT := Lib.hid ht
  have HR := Lib.hid h
  rcases hv : vec1 b with ⟨v, k1, e1⟩
  have HV := fun w (h : Row cb w A n c b) => Lib.hid (takeVec_at h (Nat.le_trans hn (by omega)) hv)
  have htk : tk b = if e1 = 0 then (if four (b.drop k1) = some (sumOf v) then some (v, k1 + 4) else none) else none := by unfold tk; rw [hv]
  have K1 := Lib.hid ((Crc.Keep.refl g w).alloc (.cells #[.pointer (some ⟨g, 0, none⟩)] 75))
  have T1 := Lib.hid (HT.out.alloc (.cells #[.pointer (some ⟨g, 0, none⟩)] 75))
  have hh := Lib.hid (heap_alloc_new w (.cells #[.pointer (some ⟨g, 0, none⟩)] 75))
  have s1 : Hid (w.heap.size < (w.alloc (.cells #[.pointer (some ⟨g, 0, none⟩)] 75)).heap.size) := by show _ < _; simp
  unfold frV
  clear ht h
  by_cases he : e1 = 0
  · subst he
    rw [if_pos rfl] at htk
    obtain ⟨v1, v2, v3, v4⟩ := vec1_one hv
    have hk1 : k1 ≤ n := by have := HR.out.row.len; omega
    have hcap := HR.out.row.cap
    have hsl := run_tail A n c k1 hk1
    clear v1 v2 hv
    by_cases h4 : four (b.drop k1) = none
    · have hr : Hid (tk b = none) := by show _ = _; rw [htk, h4]; simp
      have HF := fun w (h : Row cb w (tailA A c k1) (n - k1) (c - k1) (b.drop k1)) => Lib.hid (takeFixed_at h (v := 0) (e := 20) (.inl ⟨h4, rfl, rfl⟩))
      clear htk h4
      go_enter Tryz.func25, Tryz.ntmps25
      go_wp2_with fail
      generalize w.alloc (.cells #[.pointer (some ⟨g, 0, none⟩)] 75) = w1 at *
      refine (HV w1 (HR.out.keep K1.out).row).out.mono ?_
      rintro e w2 ⟨X, j, d, rfl, hX, hb2⟩
      have K2 := Lib.hid (K1.out.trans (keep_of_below hb2))
      have T2 := Lib.hid (T1.out.below hb2)
      clear hX hb2 K1 T1 HV
      go_wp2_with fail
      refine (HF w2 ((HR.out.keep K2.out).tail hk1).row).out.mono ?_
      rintro e w3 ⟨rfl, hb3⟩
      have K3 := Lib.hid (K2.out.trans (keep_of_below hb3))
      have T3 := Lib.hid (T2.out.below hb3)
      clear hb3 K2 T2 HF
      go_wp2_with fail
      go_ret3
      exact ⟨⟨by rw [hr.out]; rfl, K3.out⟩, T3.out.mono (by omega)⟩
    · obtain ⟨q, hq⟩ := Option.ne_none_iff_exists'.1 h4
      rw [hq] at htk
      have HF := fun w (h : Row cb w (tailA A c k1) (n - k1) (c - k1) (b.drop k1)) => Lib.hid (takeFixed_at h (v := q) (e := 0) (.inr ⟨hq, rfl⟩))
      have hr : Hid (tk b = if ((q : Int) != (sumOf v : Int)) = true then none else some (v, k1 + 4)) := by
        show _ = _
        rw [htk]
        by_cases hqs : q = sumOf v
        · subst hqs; simp
        · rw [if_neg (by simpa using hqs), if_pos (by simp; omega)]
      have HS := fun w0 a n c (ht : Tk g k w0) (h : RowO g w0 a n c v) => Lib.hid (sum_one ht (by omega) h (c := c) rfl)
      clear htk h4 hq
      generalize sumOf v = sv at *
      rcases hqv : ((q : Int) != (sv : Int))
      all_goals
        go_enter Tryz.func25, Tryz.ntmps25
        go_wp2_with fail
        generalize w.alloc (.cells #[.pointer (some ⟨g, 0, none⟩)] 75) = w1 at *
        refine (HV w1 (HR.out.keep K1.out).row).out.mono ?_
        rintro e w2 ⟨X, j, d, rfl, hX, hb2⟩
        have K2 := Lib.hid (K1.out.trans (keep_of_below hb2))
        have T2 := Lib.hid (T1.out.below hb2)
        have O2 := Lib.hid (hX.mono (base' := w.heap.size) (by have := s1.out; omega))
        have h2 := (hb2.block _ s1.out).trans hh.out
        have s2 := Lib.hid (Nat.lt_of_lt_of_le s1.out hb2.size)
        have hh2 := Lib.hid h2
        clear hX hb2 K1 T1 HV s1 hh h2
        go_wp2_with fail
        refine (HF w2 ((HR.out.keep K2.out).tail hk1).row).out.mono ?_
        rintro e w3 ⟨rfl, hb3⟩
        have K3 := Lib.hid (K2.out.trans (keep_of_below hb3))
        have T3 := Lib.hid (T2.out.below hb3)
        have O3 := Lib.hid (O2.out.below hb3)
        have c0 : w3.cell? ⟨w.heap.size, 0, none⟩ = some (.pointer (some ⟨g, 0, none⟩)) := cell_of_row _ _ _ _ _ _ ((hb3.block _ s2.out).trans hh2.out)
        have hjv := O3.out.len
        have R3 := Lib.hid (RowO.of_own O3.out (by omega) hg)
        clear hb3 K2 T2 HF O2 hh2 s2 hjv
        go_wp2_with fail
        refine (HS w3 X j d T3.out R3.out).out.mono ?_
        rintro e w4 ⟨rfl, hK4, hT4⟩
        have O4 := Lib.hid (Owns.keepG O3.out hg hK4)
        have K4 := Lib.hid (K3.out.trans hK4)
        have T4 := Lib.hid hT4
        clear hK4 hT4 K3 T3 O3 c0 R3 HS
        go_wp2_with fail
        go_ret3
      · exact ⟨⟨by rw [hr.out, if_neg (by rw [hqv]; simp)]; exact ⟨X, j, d, by rw [Int.natCast_add]; rfl, O4.out⟩, K4.out⟩, T4.out⟩
      · exact ⟨⟨by rw [hr.out, if_pos hqv]; rfl, K4.out⟩, T4.out⟩
  · have hr : Hid (tk b = none) := by show _ = _; rw [htk, if_neg he]
    obtain ⟨rfl, rfl, h3⟩ := vec1_bad hv he
    clear htk he hv
    rcases h3 with rfl | rfl | rfl
    all_goals
      go_enter Tryz.func25, Tryz.ntmps25
      go_wp2_with fail
      generalize w.alloc (.cells #[.pointer (some ⟨g, 0, none⟩)] 75) = w1 at *
      refine (HV w1 (HR.out.keep K1.out).row).out.mono ?_
      rintro e w2 ⟨X, j, d, rfl, hX, hb2⟩
      have K2 := Lib.hid (K1.out.trans (keep_of_below hb2))
      have T2 := Lib.hid (T1.out.below hb2)
      clear hX hb2 K1 T1 HV
      go_wp2_with fail
      go_ret3
      exact ⟨⟨by rw [hr.out]; rfl, K2.out⟩, T2.out.mono (by omega)⟩

/-- What takeHead tells. -/
def TookH (w : World) (o : Option Hdr) (en : Ending) (w' : World) : Prop :=
  (match o with
   | none => en = .returned (.tuple #[.agg #[.int .i64 0, .int .i64 0, .int .i64 0], .bool false])
   | some h => en = .returned (.tuple #[hdV h, .bool true])) ∧ Below w.heap.size w w'

theorem results_cell_row_tmp {P : Program} {fn : Func} {p u : Tmp} {ty : TypeId} (h : fn.results = #[.cell p ty, .tmp u]) (tmps : Array Value) (w : World) (g : Nat) (t : TypeId) (cs : Array Value) (fr : Nat × Nat) (d : TypeDesc)
    (hp : tmps.getD p undef = .pointer (some ⟨g, 0, none⟩)) (hg : w.heap[g]? = some (.cells cs t fr))
    (hu : P.underlying ty = some d) (hd : (match d with | .struct _ | .array _ _ => true | _ => false) = true) (hi : (P.info? ty).map (·.size) = some cs.size) :
    (results fn tmps).run P w = .ok (.tuple #[.agg cs, tmps.getD u undef]) w := by
  rw [results_cell_tmp h]
  have hp' : tmps[p]?.getD undef = .pointer (some ⟨g, 0, none⟩) := by simpa using hp
  simp [hp', asAddr, run_loadVar_row w g t ty cs fr d hg hu hd hi]
/-- A block whose cells are known, none frozen. -/
def Cells (w : World) (g : Nat) (t : TypeId) (cs : Array Value) : Prop := w.heap[g]? = some (.cells cs t (0, 0))
theorem Cells.below {w w' : World} {g : Nat} {t : TypeId} {cs : Array Value} (h : Cells w g t cs) (hb : Below w.heap.size w w') : Cells w' g t cs := (hb.block _ (Array.getElem?_eq_some_iff.1 h).1).trans h
theorem Cells.lt {w : World} {g : Nat} {t : TypeId} {cs : Array Value} (h : Cells w g t cs) : g < w.heap.size := (Array.getElem?_eq_some_iff.1 h).1
theorem Cells.cell {w : World} {g : Nat} {t : TypeId} {cs : Array Value} (h : Cells w g t cs) (i : Nat) : w.cell? ⟨g, i, none⟩ = cs[i]? := cell_of_row _ _ _ _ _ _ h
theorem Cells.frozen {w : World} {g : Nat} {t : TypeId} {cs : Array Value} (h : Cells w g t cs) (i : Nat) : w.frozen? ⟨g, i, none⟩ = false := frozen_of h i
theorem Cells.set_ {w : World} {g : Nat} {t : TypeId} {cs : Array Value} (h : Cells w g t cs) (i : Nat) (v : Value) : Cells (w.setCell ⟨g, i, none⟩ v) g t (cs.setIfInBounds i v) := heap_set h i v
theorem Cells.set_other {w : World} {g g' : Nat} {t : TypeId} {cs : Array Value} (h : Cells w g t cs) (hne : g' ≠ g) (i : Nat) (v : Value) : Cells (w.setCell ⟨g', i, none⟩ v) g t cs := (Below.heap_setCell _ _ _ _ (Ne.symm hne)).trans h

theorem own_block {α : Type} {f : α → Value} {e : TypeId} {base : Nat} {w : World} {b o n c : Nat} {l : List α} (h : Owns f e base w (.slice (some ⟨b, o, none⟩) n c) n l) : base ≤ b := by
  rcases h.2 with ⟨hs, -⟩ | ⟨q, cap, cur, hs, hb, -⟩
  · cases hs
  · injection hs with h1
    injection h1 with h1
    injection h1 with h1
    omega
theorem cell_set_other (w : World) (p q : Addr) (v : Value) (h : q.block ≠ p.block) : (w.setCell p v).cell? q = w.cell? q := World.cell?_of_block (Below.heap_setCell _ _ _ _ h)

theorem three_other {w : World} {g b i : Nat} (h : b ≠ g) (v0 v1 v2 : Value) : (((w.setCell ⟨g, 0, none⟩ v0).setCell ⟨g, 1, none⟩ v1).setCell ⟨g, 2, none⟩ v2).cell? ⟨b, i, none⟩ = w.cell? ⟨b, i, none⟩ := by
  rw [cell_set_other _ _ _ _ h, cell_set_other _ _ _ _ h, cell_set_other _ _ _ _ h]

set_option maxRecDepth 100000 in
set_option maxHeartbeats 1600000 in
theorem takeHead_any {A : Option Addr} {n c : Nat} {x : List B8} {w : World} (h : Row cb w A n c x) (hn : n ≤ 1000000) :
    Calls Tryz.prog 26 #[.slice A n c] w (TookH w (takeHead x)) := by
  have HR := Lib.hid h
  rcases hi : ints 4 x with ⟨l, k1, e1⟩
  have HI := fun w (h : Row cb w A n c x) => Lib.hid (takeNums_at h (Nat.le_trans hn (by omega)) 4 (by omega) hi)
  have L1 := Lib.hid ((Below.refl w.heap.size w).alloc (Nat.le_refl _) (.cells #[.int .i64 0, .int .i64 0, .int .i64 0] 23))
  have C1 : Hid (Cells (w.alloc (.cells #[.int .i64 0, .int .i64 0, .int .i64 0] 23)) w.heap.size 23 #[.int .i64 0, .int .i64 0, .int .i64 0]) := heap_alloc_new w _
  have hth : takeHead x = if e1 = 0 ∧ k1 = x.length ∧ l.getD 0 0 = 0 then some ⟨(l.getD 1 0 : Nat), (l.getD 2 0 : Nat), (l.getD 3 0 : Nat)⟩ else none := by unfold takeHead; rw [hi]
  have hlen := h.len
  rw [hlen] at hth
  clear h
  by_cases he : e1 = 0
  · subst he
    obtain ⟨a1, a2, a3, a4⟩ := ints_one _ _ _ _ hi
    match l, a1 with
    | [p0, p1, p2, p3], _ =>
      simp only [List.getD_cons_zero, List.getD_cons_succ, true_and] at hth
      have hr := Lib.hid hth
      clear hth hi a1 a2 a3 a4 hlen
      generalize takeHead x = th at *
      go_enter Tryz.func26, Tryz.ntmps26
      go_wp2_with fail
      generalize w.alloc (.cells #[.int .i64 0, .int .i64 0, .int .i64 0] 23) = w1 at *
      refine (HI w1 (HR.out.below L1.out)).out.mono ?_
      rintro e w2 ⟨X, j, d, rfl, hX, hb2⟩
      have L2 := Lib.hid (L1.out.trans (hb2.mono L1.out.size))
      have C2 := Lib.hid (C1.out.below hb2)
      have hj : j = 4 := by have := hX.len; simp [asInts] at this; exact this.symm
      subst hj
      obtain ⟨X', d', e5, hrow⟩ := hX.row (by omega)
      obtain ⟨rfl, -, rfl⟩ : X = X' ∧ 4 = 4 ∧ d = d' := by simpa using e5
      obtain ⟨b, o, rfl, hbl, hc⟩ := hrow.at_ (by omega)
      have hbn : b ≠ w.heap.size := by have := own_block hX; have := C1.out.lt; omega
      have r0 : w2.cell? ⟨b, o, none⟩ = some (.int .i64 (p0 : Int)) := hc 0 p0 rfl
      have r1 : w2.cell? ⟨b, o + 1, none⟩ = some (.int .i64 (p1 : Int)) := hc 1 p1 rfl
      have r2 : w2.cell? ⟨b, o + 2, none⟩ = some (.int .i64 (p2 : Int)) := hc 2 p2 rfl
      have r3 : w2.cell? ⟨b, o + 3, none⟩ = some (.int .i64 (p3 : Int)) := hc 3 p3 rfl
      have c0 := C2.out.cell 0
      have c1 := C2.out.cell 1
      have c2 := C2.out.cell 2
      have f0 := C2.out.frozen 0
      have f1 := C2.out.frozen 1
      have f2 := C2.out.frozen 2
      simp at c0 c1 c2
      clear hc hrow hX hb2 C1 L1 e5 HI hbl
      by_cases hcond : k1 = n ∧ p0 = 0
      · obtain ⟨rfl, rfl⟩ := hcond
        go_wp2_with fail
        refine wp_region_held_drew (S := fun W => W.cell? ⟨b, o + 1, none⟩ = some (.int .i64 (p1 : Int)) ∧ W.cell? ⟨b, o + 2, none⟩ = some (.int .i64 (p2 : Int)) ∧ W.cell? ⟨b, o + 3, none⟩ = some (.int .i64 (p3 : Int)))
          (by kernel_rfl) ⟨r1, r2, r3⟩ (fun hHeld => ?_)
        refine Reg.tk 0 rfl ?_
        refine Reg.tk 1 rfl ?_
        refine Reg.tk 2 rfl ?_
        refine Reg.tk 3 rfl ?_
        refine Reg.tk 4 rfl ?_
        refine Reg.tk 5 rfl ?_
        refine Reg.tk 6 rfl ?_
        refine Reg.tk 7 rfl ?_
        refine Reg.tk 8 rfl ?_
        refine Reg.tk 9 rfl ?_
        refine Reg.step 10 rfl (by kernel_rfl) (by rfl) (fun K hK => ?_)
        go_simp
        refine hK.out _ _ ⟨?_, ?_, ?_⟩ (fun hHeld3 => ?_)
        · simp only [World.cell?_drew]; rw [three_other hbn]; exact r1
        · simp only [World.cell?_drew]; rw [three_other hbn]; exact r2
        · simp only [World.cell?_drew]; rw [three_other hbn]; exact r3
        clear hK K hHeld
        (try simp only [Act.put, List.setIfInBounds_toArray, List.set_cons_zero, List.set_cons_succ])
        refine Reg.tk 11 rfl ?_
        refine wpAnyH_done (by kernel_rfl) ?_ _
        have H3 := fun v0 v1 v2 => ((C2.out.set_ 0 v0).set_ 1 v1).set_ 2 v2
        have L3 := fun v0 v1 v2 => ((L2.out.setCell (p := ⟨w.heap.size, 0, none⟩) (Nat.le_refl _) v0).setCell (p := ⟨w.heap.size, 1, none⟩) (Nat.le_refl _) v1).setCell (p := ⟨w.heap.size, 2, none⟩) (Nat.le_refl _) v2
        go_wp2_with fail
        (try simp only [Exit.inBlock, Exit.then])
        refine bodyPost_ret_by (results_cell_row_tmp rfl _ _ w.heap.size _ _ _ _ rfl (H3 _ _ _) Tryz.underlying23 rfl (by kernel_rfl)) rfl ?_
        exact ⟨by rw [hr.out]; rfl, (L3 _ _ _).drew⟩
      · have hq : Hid (th = none) := by show _ = _; rw [hr.out, if_neg hcond]
        have hcond2 : Hid (¬(k1 = n ∧ p0 = 0)) := hcond
        have H3 := fun v0 v1 v2 => ((C2.out.set_ 0 v0).set_ 1 v1).set_ 2 v2
        have L3 := fun v0 v1 v2 => ((L2.out.setCell (p := ⟨w.heap.size, 0, none⟩) (Nat.le_refl _) v0).setCell (p := ⟨w.heap.size, 1, none⟩) (Nat.le_refl _) v1).setCell (p := ⟨w.heap.size, 2, none⟩) (Nat.le_refl _) v2
        clear hcond
        by_cases hk : k1 = n
        · have hkb : ((k1 : Int) != (n : Int)) = false := by rw [hk]; simp
          have hpb : ((p0 : Int) != 0) = true := by
            have : p0 ≠ 0 := fun e => hcond2.out ⟨hk, e⟩
            simp; omega
          clear hk
          go_wp2_with fail
          (try simp only [Exit.inBlock, Exit.then])
          refine bodyPost_ret_by (results_cell_row_tmp rfl _ _ w.heap.size _ _ _ _ rfl (H3 _ _ _) Tryz.underlying23 rfl (by kernel_rfl)) rfl ?_
          exact ⟨by rw [hq.out]; rfl, L3 _ _ _⟩
        · have hkb : ((k1 : Int) != (n : Int)) = true := by simp; omega
          clear hk
          go_wp2_with fail
          (try simp only [Exit.inBlock, Exit.then])
          refine bodyPost_ret_by (results_cell_row_tmp rfl _ _ w.heap.size _ _ _ _ rfl (H3 _ _ _) Tryz.underlying23 rfl (by kernel_rfl)) rfl ?_
          exact ⟨by rw [hq.out]; rfl, L3 _ _ _⟩
  · have hr : Hid (takeHead x = none) := by show _ = _; rw [hth, if_neg (fun h => he h.1)]
    obtain ⟨rfl, rfl, h3⟩ := ints_bad _ _ _ _ _ hi he
    clear hth he hi hlen
    generalize takeHead x = th at *
    rcases h3 with rfl | rfl
    all_goals
      go_enter Tryz.func26, Tryz.ntmps26
      go_wp2_with fail
      generalize w.alloc (.cells #[.int .i64 0, .int .i64 0, .int .i64 0] 23) = w1 at *
      refine (HI w1 (HR.out.below L1.out)).out.mono ?_
      rintro e w2 ⟨X, j, d, rfl, hX, hb2⟩
      have L2 := Lib.hid (L1.out.trans (hb2.mono L1.out.size))
      have C2 := Lib.hid (C1.out.below hb2)
      have c0 := C2.out.cell 0
      have c1 := C2.out.cell 1
      have c2 := C2.out.cell 2
      have f0 := C2.out.frozen 0
      have f1 := C2.out.frozen 1
      have f2 := C2.out.frozen 2
      simp at c0 c1 c2
      clear hX hb2 C1 L1 HI
      have H3 := fun v0 v1 v2 => ((C2.out.set_ 0 v0).set_ 1 v1).set_ 2 v2
      have L3 := fun v0 v1 v2 => ((L2.out.setCell (p := ⟨w.heap.size, 0, none⟩) (Nat.le_refl _) v0).setCell (p := ⟨w.heap.size, 1, none⟩) (Nat.le_refl _) v1).setCell (p := ⟨w.heap.size, 2, none⟩) (Nat.le_refl _) v2
      go_wp2_with fail
      (try simp only [Exit.inBlock, Exit.then])
      refine bodyPost_ret_by (results_cell_row_tmp rfl _ _ w.heap.size _ _ _ _ rfl (H3 _ _ _) Tryz.underlying23 rfl (by kernel_rfl)) rfl ?_
      exact ⟨by rw [hr.out]; rfl, L3 _ _ _⟩
end Seg
end Go.Proofs.YtedandbkdjmfhaaGreat
