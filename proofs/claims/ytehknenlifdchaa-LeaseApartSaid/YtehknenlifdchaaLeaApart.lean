/-
  THE STATEMENT LeaseApart: what is done with one thing changes nothing of another one's lease. For every input. (Written by gen_lealaws.py.)
-/
import Derived.Test.YtehknenlifdchaaLeaLive
import Derived.Test.YtehknenlifdchaaLeaFacts
import Derived.Test.YtehknenlifdchaaLeaBody
import Derived.BigQuiet
namespace Go.Proofs.Ytehknenlifdchaa
open Go.ChangeShapes Go.WideShapes Go.ChangeAt Go.RowKit Mem
namespace Lea

set_option maxRecDepth 100000 in
set_option maxHeartbeats 25600000 in
theorem leaseApart_walk {last now : Int} {A : Option Addr} {n c : Nat} {l : List Lv} {w : World} (o : Ov) (key : Int) (h : RowL w A n c l) :
    Calls Try.prog 6 #[tv last now A n c, ov o, .int .i64 key] w fun e w' => e = .returned (.bool true) ∧ Below w.heap.size w w' := by
  have HR := Lib.hid h
  have hbig := h.big
  have hlen := Lib.hid h.len
  have HF := fun w => Lib.hid (few_any (last := last) (now := now) (A := A) (n := n) (c := c) (B := none) (m := 0) (d := 0) w hbig (by omega))
  have HC := fun w (h : RowL w A n c l) (hn : n ≤ 1000000) => Lib.hid (refCheck_any (last := last) (now := now) h hn)
  have L1 : Hid (Below w.heap.size w ((w.alloc (.cells #[.int .i64 last, .int .i64 now, .slice A n c] 24)).alloc (.cells #[.int .i64 o.d, .int .i64 o.a, .int .i64 o.b, .int .i64 o.c, .int .i64 o.e] 30))) := ((Below.refl w.heap.size w).alloc (Nat.le_refl _) _).alloc (by simp) _
  have B1 : Hid (TBox ((w.alloc (.cells #[.int .i64 last, .int .i64 now, .slice A n c] 24)).alloc (.cells #[.int .i64 o.d, .int .i64 o.a, .int .i64 o.b, .int .i64 o.c, .int .i64 o.e] 30)) w.heap.size last now A n c) := heap_alloc2_old w _ _
  have O1 : Hid (OBox ((w.alloc (.cells #[.int .i64 last, .int .i64 now, .slice A n c] 24)).alloc (.cells #[.int .i64 o.d, .int .i64 o.a, .int .i64 o.b, .int .i64 o.c, .int .i64 o.e] 30)) (w.heap.size + 1) o) := heap_alloc2_new w _ _
  clear h
  go_enter Try.func6, Try.ntmps6
  go_upto_region 1 with fail
  generalize (w.alloc (.cells #[.int .i64 last, .int .i64 now, .slice A n c] 24)).alloc (.cells #[.int .i64 o.d, .int .i64 o.a, .int .i64 o.b, .int .i64 o.c, .int .i64 o.e] 30) = w1 at *
  go_wp2_with fail
  refine (live_any w1).mono ?_
  rintro e w2 ⟨rfl, hb⟩
  have L2 := Lib.hid (L1.out.trans (hb.mono L1.out.size))
  have B2 := Lib.hid (Cells.below B1.out hb)
  have O2 := Lib.hid (Cells.below O1.out hb)
  clear hb L1 B1 O1
  obtain ⟨o0, o1, o2, o3, o4⟩ := OBox.cells O2.out
  obtain ⟨m0, m1, m2⟩ := TBox.cells B2.out
  rcases hf : fewB n 0 last now
  · have hF := HF w2
    rw [hf] at hF
    go_wp2_with fail
    refine hF.out.mono ?_
    rintro e w3 ⟨rfl, hb⟩
    have L3 := Lib.hid (L2.out.trans (hb.mono L2.out.size))
    clear hb
    go_wp2_with fail
    go_ret
    exact ⟨rfl, L3.out⟩
  have hF := HF w2
  rw [hf] at hF
  obtain ⟨hbd, hn, hm, hla, hno⟩ := few_bd hlen.out hf
  have HBD := Lib.hid hbd
  clear hbd hf hla hno
  go_wp2_with fail
  refine hF.out.mono ?_
  rintro e w3 ⟨rfl, hb⟩
  have L3 := Lib.hid (L2.out.trans (hb.mono L2.out.size))
  have B3 := Lib.hid (Cells.below B2.out hb)
  have O3 := Lib.hid (Cells.below O2.out hb)
  clear hb L2 B2 m0 m1 m2 HF hF O2 o0 o1 o2 o3 o4
  obtain ⟨m0, m1, m2⟩ := TBox.cells B3.out
  obtain ⟨o0, o1, o2, o3, o4⟩ := OBox.cells O3.out
  have hC := HC w3 (HR.out.below L3.out) (by omega)
  rcases hok : okT ⟨last, now, l⟩
  · rw [hok] at hC
    unfold errOf at hC
    simp only [cond_false] at hC
    clear hok
    go_wp2_with fail
    refine hC.out.mono ?_
    rintro e w4 ⟨rfl, hb⟩
    have L4 := Lib.hid (L3.out.trans (hb.mono L3.out.size))
    clear hb
    go_wp2_with fail
    go_ret
    exact ⟨rfl, L4.out⟩
  rw [hok] at hC
  have HOK := Lib.hid hok
  unfold errOf at hC
  simp only [cond_true] at hC
  clear hok
  go_wp2_with fail
  refine hC.out.mono ?_
  rintro e w4 ⟨rfl, hb⟩
  have L4 := Lib.hid (L3.out.trans (hb.mono L3.out.size))
  have B4 := Lib.hid (Cells.below B3.out hb)
  have O4 := Lib.hid (Cells.below O3.out hb)
  clear hb L3 B3 m0 m1 m2 HC hC O3 o0 o1 o2 o3 o4
  obtain ⟨m0, m1, m2⟩ := TBox.cells B4.out
  obtain ⟨o0, o1, o2, o3, o4⟩ := OBox.cells O4.out
  rcases ek : (o.a == key)
  case true =>
    go_wp2_with fail
    go_ret
    exact ⟨rfl, L4.out⟩
  rcases ed : (o.d == 0)
  case true =>
    go_wp2_with fail
    go_ret
    exact ⟨rfl, L4.out⟩
  have HH := fun w (h : RowL w A n c l) => Lib.hid (holder_any (last := last) (now := now) key h (by omega))
  have HB := fun w (h : RowL w A n c l) => Lib.hid (body_any (last := last) (now := now) o h (by omega) (fun hok => HBD.out.wrapl (by omega) hok) (fun hok ht => HBD.out.wrapt hok ht))
  rcases hH : holdP ⟨last, now, l⟩ key with ⟨⟨xk, xh, xe, xu⟩, b⟩
  rw [hH] at HH
  rcases hP : bodyP ⟨last, now, l⟩ o with ⟨⟨la, no, l'⟩, ll, er⟩
  rw [hP] at HB
  have FIN : Hid (((er != 0) = true ∧ l' = []) ∨ ((er != 0) = false ∧ okT ⟨la, no, l'⟩ = true ∧ holdP ⟨la, no, l'⟩ key = (⟨xk, xh, xe, xu⟩, b) ∧ l'.length ≤ 101)) := by
    show _ ∨ _
    have hd : o.d ≠ 0 := by simpa using ed
    have hne : o.a ≠ key := by simpa using ek
    rcases e9 : (er != 0)
    · have he : (bodyP ⟨last, now, l⟩ o).2.2 = 0 := by rw [hP]; simpa using e9
      have h1 := body_ok HOK.out he
      have h2 := hold_same HOK.out h1 (apart_find hd hne he)
      have h3 := (body_bd HBD.out (fun h => absurd h hd) he).len
      rw [hP] at h1 h2 h3
      exact .inr ⟨rfl, h1, h2.trans hH, by simpa using h3⟩
    · have he : (bodyP ⟨last, now, l⟩ o).2.2 ≠ 0 := by rw [hP]; simpa using e9
      have h1 := apart_bad he
      rw [hP] at h1
      exact .inl ⟨rfl, congrArg Tv.l h1⟩
  clear hH hP hlen hbig
  go_wp2_with fail
  refine (HH w4 (HR.out.below L4.out)).out.mono ?_
  rintro e w5 ⟨rfl, hb⟩
  have L6 : Hid (Below w.heap.size w (w5.alloc (.cells #[.int .i64 xk, .int .i64 xh, .int .i64 xe, .int .i64 xu] 43))) := (L4.out.trans (hb.mono L4.out.size)).alloc (by have := hb.size; have := L4.out.size; omega) _
  have B6 : Hid (TBox (w5.alloc (.cells #[.int .i64 xk, .int .i64 xh, .int .i64 xe, .int .i64 xu] 43)) w.heap.size last now A n c) := Cells.alloc (Cells.below B4.out hb) _
  have O6 : Hid (OBox (w5.alloc (.cells #[.int .i64 xk, .int .i64 xh, .int .i64 xe, .int .i64 xu] 43)) (w.heap.size + 1) o) := Cells.alloc (Cells.below O4.out hb) _
  have X6 : Hid (LBox (w5.alloc (.cells #[.int .i64 xk, .int .i64 xh, .int .i64 xe, .int .i64 xu] 43)) w5.heap.size ⟨xk, xh, xe, xu⟩) := Cells.new _ _ _
  clear hb L4 B4 O4 m0 m1 m2 o0 o1 o2 o3 o4 HH
  go_upto_region 5 with fail
  generalize (w5.alloc (.cells #[.int .i64 xk, .int .i64 xh, .int .i64 xe, .int .i64 xu] 43)) = w6 at *
  generalize w5.heap.size = gx at *
  obtain ⟨m0, m1, m2⟩ := TBox.cells B6.out
  obtain ⟨o0, o1, o2, o3, o4⟩ := OBox.cells O6.out
  go_wp2_with fail
  refine (HB w6 (HR.out.below L6.out)).out.mono ?_
  rintro e w7 ⟨A', c', B', d', rfl, hA, -, hb⟩
  simp only at hA
  have L8 : Hid (Below w.heap.size w (w7.alloc (.cells #[.int .i64 la, .int .i64 no, .slice A' l'.length c'] 24))) := (L6.out.trans (hb.mono L6.out.size)).alloc (by have := hb.size; have := L6.out.size; omega) _
  have X8 : Hid (LBox (w7.alloc (.cells #[.int .i64 la, .int .i64 no, .slice A' l'.length c'] 24)) gx ⟨xk, xh, xe, xu⟩) := Cells.alloc (Cells.below X6.out hb) _
  have U8 : Hid (TBox (w7.alloc (.cells #[.int .i64 la, .int .i64 no, .slice A' l'.length c'] 24)) w7.heap.size la no A' l'.length c') := Cells.new _ _ _
  have R8 : Hid (RowL (w7.alloc (.cells #[.int .i64 la, .int .i64 no, .slice A' l'.length c'] 24)) A' l'.length c' l') := RowS.alloc hA _
  clear hb hA L6 B6 O6 X6 m0 m1 m2 o0 o1 o2 o3 o4 HB HR
  go_upto_region 6 with fail
  generalize (w7.alloc (.cells #[.int .i64 la, .int .i64 no, .slice A' l'.length c'] 24)) = w8 at *
  generalize w7.heap.size = gu at *
  obtain ⟨u0, u1, u2⟩ := TBox.cells U8.out
  rcases FIN.out with ⟨e9, rfl⟩ | ⟨e9, hoku, hHu, hlu⟩
  · simp only [List.length_nil] at u2
    go_wp2_with fail
    go_ret
    exact ⟨rfl, L8.out⟩
  have HH2 := fun w (h : RowL w A' l'.length c' l') => Lib.hid (holder_any (last := la) (now := no) key h (by omega))
  rw [hHu] at HH2
  have HC2 := fun w (h : RowL w A' l'.length c' l') => Lib.hid (refCheck_any (last := la) (now := no) h (by omega))
  rw [hoku] at HC2
  unfold errOf at HC2
  simp only [cond_true] at HC2
  clear hoku hHu FIN
  go_wp2_with fail
  refine (HH2 w8 R8.out).out.mono ?_
  rintro e w9 ⟨rfl, hb⟩
  have L10 : Hid (Below w.heap.size w (w9.alloc (.cells #[.int .i64 xk, .int .i64 xh, .int .i64 xe, .int .i64 xu] 43))) := (L8.out.trans (hb.mono L8.out.size)).alloc (by have := hb.size; have := L8.out.size; omega) _
  have X10 : Hid (LBox (w9.alloc (.cells #[.int .i64 xk, .int .i64 xh, .int .i64 xe, .int .i64 xu] 43)) gx ⟨xk, xh, xe, xu⟩) := Cells.alloc (Cells.below X8.out hb) _
  have Y10 : Hid (LBox (w9.alloc (.cells #[.int .i64 xk, .int .i64 xh, .int .i64 xe, .int .i64 xu] 43)) w9.heap.size ⟨xk, xh, xe, xu⟩) := Cells.new _ _ _
  have U10 : Hid (TBox (w9.alloc (.cells #[.int .i64 xk, .int .i64 xh, .int .i64 xe, .int .i64 xu] 43)) gu la no A' l'.length c') := Cells.alloc (Cells.below U8.out hb) _
  have R10 : Hid (RowL (w9.alloc (.cells #[.int .i64 xk, .int .i64 xh, .int .i64 xe, .int .i64 xu] 43)) A' l'.length c' l') := RowS.alloc (RowS.below R8.out hb) _
  clear hb L8 X8 U8 R8 u0 u1 u2
  go_upto_region 9 with fail
  generalize (w9.alloc (.cells #[.int .i64 xk, .int .i64 xh, .int .i64 xe, .int .i64 xu] 43)) = w10 at *
  generalize w9.heap.size = gy at *
  obtain ⟨u0, u1, u2⟩ := TBox.cells U10.out
  obtain ⟨x0, x1, x2, x3⟩ := LBox.cells X10.out
  obtain ⟨y0, y1, y2, y3⟩ := LBox.cells Y10.out
  have heq := fun w => lease_eql ⟨xk, xh, xe, xu⟩ w
  have hgd := lease_guard
  rcases b
  all_goals
    go_wp2_with fail
    refine (HC2 w10 R10.out).out.mono ?_
    rintro e w11 ⟨rfl, hb⟩
    have L11 := Lib.hid (L10.out.trans (hb.mono L10.out.size))
    clear hb
    go_wp2_with fail
    go_ret
    exact ⟨rfl, L11.out⟩
end Lea
end Go.Proofs.Ytehknenlifdchaa
