/-
  WALKS OVER seg'S Seg.
-/
import Derived.Test.YtedandbkdjmfhaaSegScan
namespace Go.Proofs.Ytedandbkdjmfhaa
open Go.RowKit Mem
namespace Seg
open Wire

/-- The seven cells of record k, as the text reckons their addresses. -/
theorem RowR.seven {w : World} {A : Option Addr} {n c : Nat} {xs : List Rv} (h : RowR w A n c xs) {k : Nat} {x : Rv} (hx : xs[k]? = some x) : ∃ b o, A = some ⟨b, o, none⟩ ∧ b < w.heap.size ∧
    ∀ wr : World, wr.heap[b]? = w.heap[b]? → wr.cell? ⟨b, o + k * 7, none⟩ = some (.int .i64 x.r.kind) ∧ wr.cell? ⟨b, o + k * 7 + 1, none⟩ = some (.int .i64 x.r.lba) ∧ wr.cell? ⟨b, o + k * 7 + 2, none⟩ = some (.int .i64 x.r.n) ∧ wr.cell? ⟨b, o + k * 7 + 3, none⟩ = some (.int .i64 x.r.ver) ∧
      wr.cell? ⟨b, o + k * 7 + 4, none⟩ = some (.int .i64 x.r.zone) ∧ wr.cell? ⟨b, o + k * 7 + 5, none⟩ = some (.int .i64 x.r.off) ∧ wr.cell? ⟨b, o + k * 7 + 6, none⟩ = some (.slice x.D x.r.data.length x.c) := by
  have hk : k < xs.length := (List.getElem?_eq_some_iff.1 hx).1
  obtain ⟨b, o, e, hb, hc⟩ := h.at_ (by have := h.len; omega)
  refine ⟨b, o, e, hb, fun wr hw => ?_⟩
  have hcc : ∀ j v, (cellsOf x)[j]? = some v → wr.cell? ⟨b, o + (k * 7 + j), none⟩ = some v := fun j v hv => (World.cell?_of_block hw).trans (hc k x hx j v hv)
  exact ⟨hcc 0 _ rfl, hcc 1 _ rfl, hcc 2 _ rfl, hcc 3 _ rfl, hcc 4 _ rfl, hcc 5 _ rfl, hcc 6 _ rfl⟩

theorem recsB_at : ∀ (l : List Rc) (k : Nat) (r : Rc) (e : Nat), (∀ r ∈ l.take k, check r = 0) → l[k]? = some r → check r = e → e ≠ 0 → recsB l = ([], e) := by
  intro l
  induction l with
  | nil => intro k r e _ h; simp at h
  | cons a l ih =>
    intro k r e h1 h2 h3 h4
    rcases k with _ | k
    · simp only [List.getElem?_cons_zero, Option.some.injEq] at h2
      subst h2
      rw [recsB, if_neg (by omega), h3]
    · have ha := h1 a (by simp)
      rw [recsB, if_pos ha, ih k r e (fun x hx => h1 x (by simp [hx])) (by simpa using h2) h3 h4]
      simp [h4]

def goods (l : List Rc) : Prop := ∀ r ∈ l, fits (nums r)

set_option maxRecDepth 100000 in
set_option maxHeartbeats 3200000 in
theorem seg_any {h : Hdr} {A : Option Addr} {n c : Nat} {xs : List Rv} {w : World} (hr : RowR w A n c xs) (hf : fits (hnums h)) (hfs : goods (xs.map Rv.r)) (hb : (frames (xs.map Rv.r)).length ≤ 100000000000) :
    Calls Try.prog 12 #[hdV h, .slice A n c] w (Gv w (segB h (xs.map Rv.r)).1 (segB h (xs.map Rv.r)).2) := by
  have HR := Lib.hid hr
  have HN := fun w => Lib.hid (newFrames_any w)
  have HH := fun g w (ht : Tk g 0 w) => Lib.hid (head_any ht (by omega) hf)
  have hseg : Hid (segB h (xs.map Rv.r) = if nn (hnums h) then (let t := recsB (xs.map Rv.r); if t.2 = 0 then (frame (headX h) ++ t.1, 0) else ([], t.2)) else ([], 1)) := rfl
  have HREC := fun (g k : Nat) (w : World) (x : Rv) (hx : x ∈ xs) (ht : Tk g k w) (hk : k ≤ 1000000000000000000) (h : RowO g w x.D x.r.data.length x.c x.r.data) => Lib.hid (rec_any (n := x.r.data.length) (c := x.c) ht hk (hfs x.r (List.mem_map_of_mem hx)) h)
  have HB := Lib.hid hb
  have hnbig := hr.big
  unfold frV hdV recV at *
  generalize segB h (xs.map Rv.r) = sg at *
  clear hr hfs hb
  go_enter Try.func12, Try.ntmps12
  go_wp2_with fail
  have L1 := Lib.hid ((Below.refl w.heap.size w).alloc (Nat.le_refl _) (.cells #[.int .i64 h.host, .int .i64 h.epoch, .int .i64 h.seq] 23))
  have C1 : Hid (Cells (w.alloc (.cells #[.int .i64 h.host, .int .i64 h.epoch, .int .i64 h.seq] 23)) w.heap.size 23 #[.int .i64 h.host, .int .i64 h.epoch, .int .i64 h.seq]) := heap_alloc_new w _
  generalize w.alloc (.cells #[.int .i64 h.host, .int .i64 h.epoch, .int .i64 h.seq] 23) = w1 at *
  refine (HN w1).out.mono ?_
  rintro e w2 ⟨g, hg, rfl, hT, hb2⟩
  have b3 : Below w1.heap.size w1 (w2.alloc (.cells #[.pointer (some ⟨g, 0, none⟩)] 60)) := hb2.alloc hb2.size _
  have L3 := Lib.hid (L1.out.trans (b3.mono L1.out.size))
  have C3 := Cells.below C1.out b3
  have T3 := Lib.hid (hT.alloc (.cells #[.pointer (some ⟨g, 0, none⟩)] 60))
  have F3 : Hid (Cells (w2.alloc (.cells #[.pointer (some ⟨g, 0, none⟩)] 60)) w2.heap.size 60 #[.pointer (some ⟨g, 0, none⟩)]) := heap_alloc_new w2 _
  have G1 : Hid (w.heap.size < g) := Nat.lt_of_lt_of_le (Cells.lt C1.out) hg
  have G2 : Hid (g < w2.heap.size) := hT.lt
  have c0 := C3.cell 0
  have c1 := C3.cell 1
  have c2 := C3.cell 2
  simp at c0 c1 c2
  clear b3 hb2 hT C1 L1 HN C3
  go_wp2_with fail
  generalize w2.alloc (.cells #[.pointer (some ⟨g, 0, none⟩)] 60) = w3 at *
  generalize w2.heap.size = F at *
  have hS3 : Hid (F + 1 ≤ w3.heap.size) := Cells.lt F3.out
  refine (HH g w3 T3.out).out.mono ?_
  rintro e w4 ⟨⟨B, j, d, rfl, hO4, hK4⟩, hT4⟩
  have L4 := Lib.hid (L3.out.trans (hK4.low (B := w.heap.size) (Nat.le_of_lt G1.out) L3.out.size))
  have F4 : Hid (Cells w4 F _ _) := Lib.hid ((Keep.block hK4 (Cells.lt F3.out) (Nat.ne_of_gt G2.out)).trans F3.out)
  have T4 := Lib.hid hT4
  have O4 := Lib.hid (hO4.mono (base' := F + 1) hS3.out)
  clear hK4 hT4 hO4 L3 T3 F3 HH c0 c1 c2
  by_cases hn : nn (hnums h)
  · have hB : headB h = (frame (headX h), 0) := by unfold headB; rw [if_pos hn]
    rw [hB] at O4 ⊢
    have hlen : Hid ((frame (headX h)).length ≤ 60) := by
      have h1 := headX_len h hf hn
      have h2 := frame_len (headX h)
      have h3 := enc_len_le (n := (headX h).length) (by omega)
      show _ ≤ _
      omega
    have HSeg : Hid (sg = (let t := recsB (xs.map Rv.r); if t.2 = 0 then (frame (headX h) ++ t.1, 0) else ([], t.2))) := by show _ = _; rw [hseg.out, if_pos hn]
    clear hB hseg hn
    go_wp2_with fail
    go_loopw [7, 25] (fun s i wr => ∃ (B : Option Addr) (j d k : Nat), s = .slice B j d ∧ i = .int .i64 k ∧ k ≤ n ∧
      Hid (Below w.heap.size w wr ∧ Cells wr F 60 #[.pointer (some ⟨g, 0, none⟩)] ∧ Tk g (k + 1) wr ∧ Owns cb 5 (F + 1) wr (.slice B j d) j (frame (headX h) ++ frames ((xs.map Rv.r).take k)) ∧ ∀ r ∈ (xs.map Rv.r).take k, check r = 0)) (fun _ i _ => n - (intOf i).toNat)
    case atStart => exact ⟨B, j, d, 0, rfl, rfl, by omega, L4.out, F4.out, T4.out, by simpa [frames] using O4.out, by simp⟩
    case round =>
      clear L4 F4 T4 O4
      obtain ⟨B, j, d, k, rfl, rfl, hk, hH⟩ := hrel
      by_cases hlt : k < n
      · obtain ⟨x, hx⟩ := HR.out.get hlt
        obtain ⟨b0, o0, rfl, hb0, hcell⟩ := HR.out.seven hx
        obtain ⟨q0, q1, q2, q3, q4, q5, q6⟩ := hcell wr (hH.out.1.block b0 hb0)
        have hxm : x ∈ xs := List.mem_of_getElem? hx
        have HD := Lib.hid (HR.out.data x hxm)
        have hxr : (xs.map Rv.r)[k]? = some x.r := by rw [List.getElem?_map, hx]; rfl
        have HX := Lib.hid hxr
        have L5 := Lib.hid (hH.out.1.alloc hH.out.1.size (.cells #[.int .i64 x.r.kind, .int .i64 x.r.lba, .int .i64 x.r.n, .int .i64 x.r.ver, .int .i64 x.r.zone, .int .i64 x.r.off, .slice x.D x.r.data.length x.c] 34))
        have F5 := Cells.below hH.out.2.1 ((Below.refl _ wr).alloc (Nat.le_refl _) (.cells #[.int .i64 x.r.kind, .int .i64 x.r.lba, .int .i64 x.r.n, .int .i64 x.r.ver, .int .i64 x.r.zone, .int .i64 x.r.off, .slice x.D x.r.data.length x.c] 34))
        have T5 := Lib.hid (hH.out.2.2.1.alloc (.cells #[.int .i64 x.r.kind, .int .i64 x.r.lba, .int .i64 x.r.n, .int .i64 x.r.ver, .int .i64 x.r.zone, .int .i64 x.r.off, .slice x.D x.r.data.length x.c] 34))
        have O5 := Lib.hid (hH.out.2.2.2.1.alloc (.cells #[.int .i64 x.r.kind, .int .i64 x.r.lba, .int .i64 x.r.n, .int .i64 x.r.ver, .int .i64 x.r.zone, .int .i64 x.r.off, .slice x.D x.r.data.length x.c] 34))
        have c0 := F5.cell 0
        simp at c0
        have R5 : Hid (RowO g (wr.alloc (.cells #[.int .i64 x.r.kind, .int .i64 x.r.lba, .int .i64 x.r.n, .int .i64 x.r.ver, .int .i64 x.r.zone, .int .i64 x.r.off, .slice x.D x.r.data.length x.c] 34)) x.D x.r.data.length x.c x.r.data) := by
          have h0 := RowO.of_low HD.out (Nat.le_of_lt G1.out)
          exact ⟨HD.out.below L5.out, h0.off⟩
        have K5 : Hid (k + 1 ≤ 1000000000000000000) := by have := HR.out.big; show _ ≤ _; omega
        have hrec := Lib.hid ((HREC g (k + 1) _ x hxm T5.out K5.out R5.out).out)
        have F5 := Lib.hid F5
        clear hcell hx hxr hxm HREC
        generalize hrb : recB x.r = rb at *
        have HRB := Lib.hid hrb
        clear hrb
        rcases check_le x.r with hc | hc | hc
        · have hrb2 : rb = (frame (recX x.r), 0) := by rw [← HRB.out]; unfold recB; rw [if_pos hc]
          subst hrb2
          have hbound : Hid (j + (frame (recX x.r)).length ≤ 200000000000) := by
            have h1 := hH.out.2.2.2.1.len
            rw [List.length_append] at h1
            have h2 := hlen.out
            have h3 := frames_mono (xs.map Rv.r) (show k + 1 ≤ (xs.map Rv.r).length by have := (List.getElem?_eq_some_iff.1 HX.out).1; omega)
            rw [List.take_length] at h3
            rw [List.take_add_one, HX.out, frames_append, List.length_append] at h3
            have h4 : (frames (some x.r).toList).length = (frame (recX x.r)).length := by simp [frames]
            have := HB.out
            show _ ≤ _
            omega
          clear HRB
          go_wp2_with fail
          refine hrec.out.mono ?_
          rintro e w6 ⟨⟨X, j6, d6, rfl, hO6, hK6⟩, hT6⟩
          have L6 := Lib.hid (L5.out.trans (hK6.low (B := w.heap.size) (Nat.le_of_lt G1.out) L5.out.size))
          have F6 : Hid (Cells w6 F _ _) := Lib.hid ((Keep.block hK6 (Cells.lt F5.out) (Nat.ne_of_gt G2.out)).trans F5.out)
          have O6 := Lib.hid (Owns.keepG O5.out (Nat.lt_succ_of_lt G2.out) hK6)
          have T6 := Lib.hid hT6
          have hj6 : (frame (recX x.r)).length = j6 := hO6.len
          obtain ⟨X', d', e5, hrow⟩ := hO6.row (by have := hbound.out; omega)
          obtain ⟨rfl, -, rfl⟩ : X = X' ∧ j6 = j6 ∧ d6 = d' := by simpa using e5
          have R6 := Lib.hid hrow
          have hbd : Hid (j + j6 ≤ 200000000000) := by rw [← hj6]; exact hbound
          have hS6 : Hid (F + 1 ≤ w6.heap.size) := Cells.lt F6.out
          clear hrec hO6 hK6 hT6 c0 F5 T5 O5 R5 L5 q0 q1 q2 q3 q4 q5 q6 e5 hrow hj6 hbound
          go_wp2_with (at_builtin; refine wpList_append_row cb_one Try.underlying27 info_byte rfl rfl (.tmp 38) (.tmp 39) rfl rfl (F + 1) (.slice B j d) j _ rfl O6.out X j6 d6 _ rfl R6.out (by have := hbd.out; omega) (by have := hbd.out; omega) hS6.out ?_; intro A7 c7 w7 hown7 hb7; have O7 := Lib.hid hown7; have Q7 := Lib.hid hb7; clear hown7 hb7)
          go_roundw
          case rel =>
            have hG1 := G1.out
            have hG2 := G2.out
            refine ⟨A7, j + j6, c7, k + 1, rfl, by go_num, by omega, L6.out.trans (Q7.out.mono (by omega)), (Q7.out.block F (by omega)).trans F6.out, T6.out.heap (Q7.out.block g (by omega)), ?_, ?_⟩
            · have := O7.out
              rw [List.append_assoc] at this
              rw [List.take_add_one, HX.out, frames_append]
              simpa [frames] using this
            · intro r hr
              rw [List.take_add_one, HX.out] at hr
              rcases List.mem_append.1 hr with hr | hr
              · exact hH.out.2.2.2.2 r hr
              · simp at hr; subst hr; exact hc
          case measure => simp [intOf]; omega
        · have hrb2 : rb = ([], 1) := by rw [← HRB.out]; unfold recB; rw [if_neg (by omega), hc]
          have hsg : Hid (sg = ([], 1)) := by
            show _ = _
            rw [HSeg.out, recsB_at _ k x.r 1 hH.out.2.2.2.2 HX.out hc (by omega)]
            simp
          subst hrb2
          clear HRB
          go_wp2_with fail
          refine hrec.out.mono ?_
          rintro e w6 ⟨⟨X, j6, d6, rfl, hO6, hK6⟩, hT6⟩
          have L6 := Lib.hid (L5.out.trans (hK6.low (B := w.heap.size) (Nat.le_of_lt G1.out) L5.out.size))
          clear hrec hO6 hK6 hT6 c0 F5 T5 O5 R5 q0 q1 q2 q3 q4 q5 q6
          go_wp2_with fail
          go_ret2
          rw [hsg.out]
          exact ⟨_, _, _, rfl, Owns.nil _ _ _ _, L6.out⟩
        · have hrb2 : rb = ([], 2) := by rw [← HRB.out]; unfold recB; rw [if_neg (by omega), hc]
          have hsg : Hid (sg = ([], 2)) := by
            show _ = _
            rw [HSeg.out, recsB_at _ k x.r 2 hH.out.2.2.2.2 HX.out hc (by omega)]
            simp
          subst hrb2
          clear HRB
          go_wp2_with fail
          refine hrec.out.mono ?_
          rintro e w6 ⟨⟨X, j6, d6, rfl, hO6, hK6⟩, hT6⟩
          have L6 := Lib.hid (L5.out.trans (hK6.low (B := w.heap.size) (Nat.le_of_lt G1.out) L5.out.size))
          clear hrec hO6 hK6 hT6 c0 F5 T5 O5 R5 q0 q1 q2 q3 q4 q5 q6
          go_wp2_with fail
          go_ret2
          rw [hsg.out]
          exact ⟨_, _, _, rfl, Owns.nil _ _ _ _, L6.out⟩
      · have hkn : (xs.map Rv.r).take k = xs.map Rv.r := List.take_of_length_le (by have := HR.out.len; simp; omega)
        have hE := hH.out
        rw [hkn] at hE
        have hsg : Hid (sg = (frame (headX h) ++ frames (xs.map Rv.r), 0)) := by
          show _ = _
          rw [HSeg.out, recsB_ok _ hE.2.2.2.2]
          simp
        have O8 := Lib.hid hE.2.2.2.1
        have L8 := Lib.hid hE.1
        clear hkn hE
        go_wp2_with fail
        go_ret2
        rw [hsg.out]
        exact ⟨_, _, _, rfl, O8.out.mono (by have := G1.out; have := G2.out; omega), L8.out⟩
  · have hB : headB h = ([], 1) := by unfold headB; rw [if_neg hn]
    have HSeg : Hid (sg = ([], 1)) := by show _ = _; rw [hseg.out, if_neg hn]
    rw [hB] at O4 ⊢
    clear hB hseg hn
    go_wp2_with fail
    go_ret2
    rw [HSeg.out]
    exact ⟨_, _, _, rfl, Owns.nil _ _ _ _, L4.out⟩
end Seg
end Go.Proofs.Ytedandbkdjmfhaa
