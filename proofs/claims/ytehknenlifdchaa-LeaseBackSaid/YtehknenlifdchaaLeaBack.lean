/-
  THE STATEMENT LeaseBack: a thing that was granted and taken back is free again, under a greater epoch; all else is as it was. For every input. (Written by gen_lealaws.py.)
-/
import Derived.Test.YtehknenlifdchaaLeaLive
import Derived.Test.YtehknenlifdchaaLeaFacts
import Derived.Test.YtehknenlifdchaaLeaBody
import Derived.BigQuiet
namespace Go.Proofs.Ytehknenlifdchaa
open Go.ChangeShapes Go.WideShapes Go.ChangeAt Go.RowKit Mem
namespace Lea

theorem put_held {l : List Lv} {key : Int} {x : Lv} (hr : Rises l) (hh : heldB l key = false) (hx : x.key = key) : heldB (putL l key x) key = true ∧ getL (putL l key x) key = x := by
  have h1 : x ∈ putL l key x := (putL_mem hr hh).2 (.inl rfl)
  have h2 := find_of (putL_rises hr hx) h1
  rw [hx] at h2
  refine ⟨held_iff.2 ⟨x, h1, hx⟩, ?_⟩
  unfold getL
  rw [h2]
  rfl
theorem back_facts {last now : Int} {l : List Lv} {key host ttl : Int} (hg : grantOk ⟨last, now, l⟩ key host ttl = true) (hh : heldB l key = false) :
    revokeP ⟨last + 1, now, putL l key ⟨key, host, last + 1, now + ttl⟩⟩ key = (⟨last + 1, now, l⟩, 0) ∧
    grantP ⟨last + 1, now, l⟩ key host ttl = (⟨last + 1 + 1, now, putL l key ⟨key, host, last + 1 + 1, now + ttl⟩⟩, ⟨key, host, last + 1 + 1, now + ttl⟩, 0) ∧
    renewP ⟨last + 1 + 1, now, putL l key ⟨key, host, last + 1 + 1, now + ttl⟩⟩ key host (last + 1) ttl = (zT, 61) ∧
    ∃ l5, renewP ⟨last + 1 + 1, now, putL l key ⟨key, host, last + 1 + 1, now + ttl⟩⟩ key host (last + 1 + 1) ttl = (⟨last + 1 + 1, now, l5⟩, 0) := by
  have hok := grantOk_ok hg
  have hr := okT_rises hok
  have h1 := okT_grant hg hh
  have h2 : okT ⟨last + 1, now, l⟩ = true := okT_more hok (by show last ≤ last + 1; omega)
  have hg2 : grantOk ⟨last + 1, now, l⟩ key host ttl = true := by
    unfold grantOk at hg ⊢
    rw [hok] at hg
    rw [h2]
    exact hg
  have h3 := okT_grant hg2 hh
  have hto : ttlB ttl = true := by unfold grantOk at hg; simp only [Bool.and_eq_true] at hg; exact hg.2.2.2
  have p1 := put_held (x := ⟨key, host, last + 1, now + ttl⟩) hr hh rfl
  have p2 := put_held (x := ⟨key, host, last + 1 + 1, now + ttl⟩) hr hh rfl
  have h1' : okT ⟨last + 1, now, putL l key ⟨key, host, last + 1, now + ttl⟩⟩ = true := h1
  have h3' : okT ⟨last + 1 + 1, now, putL l key ⟨key, host, last + 1 + 1, now + ttl⟩⟩ = true := h3
  refine ⟨?_, ?_, ?_, ?_⟩
  · unfold revokeP
    simp only
    rw [h1', p1.1, butK_put hr hh rfl]
    rfl
  · unfold grantP
    rw [hg2]
    simp only
    rw [hh]
    rfl
  · unfold renewP
    simp only
    rw [h3', hto, p2.1, p2.2]
    have : ((last + 1 + 1 : Int) != last + 1) = true := by simp; omega
    simp only [this]
    simp
  · unfold renewP
    simp only
    rw [h3', hto, p2.1, p2.2]
    exact ⟨setK (putL l key ⟨key, host, last + 1 + 1, now + ttl⟩) key (longer ⟨last + 1 + 1, now, putL l key ⟨key, host, last + 1 + 1, now + ttl⟩⟩ ttl), by simp⟩

set_option maxRecDepth 100000 in
set_option maxHeartbeats 25600000 in
theorem leaseBack_walk {last now : Int} {A : Option Addr} {n c : Nat} {l : List Lv} {w : World} (key host ttl : Int) (h : RowL w A n c l) :
    Calls Try.prog 8 #[tv last now A n c, .int .i64 key, .int .i64 host, .int .i64 ttl] w fun e w' => e = .returned (.bool true) ∧ Below w.heap.size w w' := by
  have HR := Lib.hid h
  have hbig := h.big
  have hlen := Lib.hid h.len
  have HF := fun w => Lib.hid (few_any (last := last) (now := now) (A := A) (n := n) (c := c) (B := none) (m := 0) (d := 0) w hbig (by omega))
  have HC := fun w (h : RowL w A n c l) (hn : n ≤ 1000000) => Lib.hid (refCheck_any (last := last) (now := now) h hn)
  have L1 : Hid (Below w.heap.size w (w.alloc (.cells #[.int .i64 last, .int .i64 now, .slice A n c] 24))) := (Below.refl w.heap.size w).alloc (Nat.le_refl _) _
  have B1 : Hid (TBox (w.alloc (.cells #[.int .i64 last, .int .i64 now, .slice A n c] 24)) w.heap.size last now A n c) := Cells.new w _ _
  clear h
  go_enter Try.func8, Try.ntmps8
  go_upto_region 1 with fail
  generalize w.alloc (.cells #[.int .i64 last, .int .i64 now, .slice A n c] 24) = w1 at *
  go_wp2_with fail
  refine (live_any w1).mono ?_
  rintro e w2 ⟨rfl, hb⟩
  have L2 := Lib.hid (L1.out.trans (hb.mono L1.out.size))
  have B2 := Lib.hid (Cells.below B1.out hb)
  clear hb L1 B1
  obtain ⟨m0, m1, m2⟩ := TBox.cells B2.out
  rcases hf : fewB n 0 last now
  · have hF := HF w2
    rw [hf] at hF
    go_wp2_with fail
    refine hF.out.mono ?_
    rintro e w3 ⟨rfl, hb⟩
    have L3 := Lib.hid (L2.out.trans (hb.mono L2.out.size))
    clear hb
    go_wp2_with fail
    go_ret
    exact ⟨rfl, L3.out⟩
  have hF := HF w2
  rw [hf] at hF
  obtain ⟨hbd, hn, hm, hla, hno⟩ := few_bd hlen.out hf
  have HBD := Lib.hid hbd
  clear hbd hf hla hno
  go_wp2_with fail
  refine hF.out.mono ?_
  rintro e w3 ⟨rfl, hb⟩
  have L3 := Lib.hid (L2.out.trans (hb.mono L2.out.size))
  have B3 := Lib.hid (Cells.below B2.out hb)
  clear hb L2 B2 m0 m1 m2 HF hF 
  obtain ⟨m0, m1, m2⟩ := TBox.cells B3.out

  have hC := HC w3 (HR.out.below L3.out) (by omega)
  rcases hok : okT ⟨last, now, l⟩
  · rw [hok] at hC
    unfold errOf at hC
    simp only [cond_false] at hC
    clear hok
    go_wp2_with fail
    refine hC.out.mono ?_
    rintro e w4 ⟨rfl, hb⟩
    have L4 := Lib.hid (L3.out.trans (hb.mono L3.out.size))
    clear hb
    go_wp2_with fail
    go_ret
    exact ⟨rfl, L4.out⟩
  rw [hok] at hC
  have HOK := Lib.hid hok
  unfold errOf at hC
  simp only [cond_true] at hC
  clear hok
  go_wp2_with fail
  refine hC.out.mono ?_
  rintro e w4 ⟨rfl, hb⟩
  have L4 := Lib.hid (L3.out.trans (hb.mono L3.out.size))
  have B4 := Lib.hid (Cells.below B3.out hb)
  clear hb L3 B3 m0 m1 m2 HC hC 
  obtain ⟨m0, m1, m2⟩ := TBox.cells B4.out

  obtain rfl : n = l.length := hlen.out.symm
  have hlb := HBD.out.last
  have hnb := HBD.out.now
  simp only at hlb hnb
  have hl0 : 0 ≤ last := (okT_iff.1 HOK.out).1
  have hn0 : 0 ≤ now := (okT_iff.1 HOK.out).2.1
  have HG := fun w (h : RowL w A l.length c l) => Lib.hid (grant_any (last := last) (now := now) key host ttl h (by omega) (fun _ => wrap_last hl0 (by omega)) (fun hg => HBD.out.wrapt HOK.out (by unfold grantOk at hg; simp only [Bool.and_eq_true] at hg; exact hg.2.2.2)))
  rcases grant_cases ⟨last, now, l⟩ key host ttl with ⟨hg, hh, hP⟩ | ⟨er, he, hP⟩
  case inr =>
    rw [hP] at HG
    have he0 : (er != 0) = true := by simpa using he
    clear hP he
    go_wp2_with fail
    refine (HG w4 (HR.out.below L4.out)).out.mono ?_
    rintro e w5 ⟨A1, c1, rfl, -, hb⟩
    simp only [zT, zL, List.length_nil]
    have L6 : Hid (Below w.heap.size w ((w5.alloc (.cells #[.int .i64 0, .int .i64 0, .slice A1 0 c1] 24)).alloc (.cells #[.int .i64 0, .int .i64 0, .int .i64 0, .int .i64 0] 43))) := ((L4.out.trans (hb.mono L4.out.size)).alloc (by have := hb.size; have := L4.out.size; omega) _).alloc (by have := hb.size; have := L4.out.size; simp; omega) _
    have U6 : Hid (TBox ((w5.alloc (.cells #[.int .i64 0, .int .i64 0, .slice A1 0 c1] 24)).alloc (.cells #[.int .i64 0, .int .i64 0, .int .i64 0, .int .i64 0] 43)) w5.heap.size 0 0 A1 0 c1) := heap_alloc2_old w5 _ _
    clear hb m0 m1 m2
    go_upto_region 5 with fail
    generalize ((w5.alloc (.cells #[.int .i64 0, .int .i64 0, .slice A1 0 c1] 24)).alloc (.cells #[.int .i64 0, .int .i64 0, .int .i64 0, .int .i64 0] 43)) = w6 at *
    generalize w5.heap.size = gu at *
    obtain ⟨u0, u1, u2⟩ := TBox.cells U6.out
    go_wp2_with fail
    go_ret
    exact ⟨rfl, L6.out⟩
  have hto : ttlB ttl = true := by unfold grantOk at hg; simp only [Bool.and_eq_true] at hg; exact hg.2.2.2
  obtain ⟨b1, b2, b3, l5, b4⟩ := back_facts hg hh
  have hpl : ∀ x : Lv, (putL l key x).length = l.length + 1 := fun x => putL_len (okT_rises HOK.out) hh
  have ho3 : okT ⟨last + 1 + 1, now, putL l key ⟨key, host, last + 1 + 1, now + ttl⟩⟩ = true := okT_grant (t := ⟨last + 1, now, l⟩) (by
    have h2 : okT ⟨last + 1, now, l⟩ = true := okT_more HOK.out (by show last ≤ last + 1; omega)
    unfold grantOk at hg ⊢
    rw [HOK.out] at hg
    rw [h2]
    exact hg) hh
  have hwt : IntKind.i64.wrap (now + ttl) = now + ttl := HBD.out.wrapt HOK.out hto
  have HG1 : ∀ w, RowL w A l.length c l → Hid (Calls Try.prog 24 #[tv last now A l.length c, .int .i64 key, .int .i64 host, .int .i64 ttl] w fun e w' => ∃ A1 c1, e = .returned (.tuple #[tv (last + 1) now A1 (l.length + 1) c1, lv ⟨key, host, last + 1, now + ttl⟩, .int .i64 0]) ∧ RowL w' A1 (l.length + 1) c1 (putL l key ⟨key, host, last + 1, now + ttl⟩) ∧ Below w.heap.size w w') := by
    intro w h
    have h9 := (HG w h).out
    rw [hP] at h9
    refine h9.mono ?_
    rintro e w' ⟨A1, c1, rfl, hA, hb⟩
    simp only at hA
    refine ⟨A1, c1, ?_, ?_, hb⟩
    · simp only [hpl]; rfl
    · rw [hpl] at hA; exact hA
  have HV : ∀ w A1 c1, RowL w A1 (l.length + 1) c1 (putL l key ⟨key, host, last + 1, now + ttl⟩) → Hid (Calls Try.prog 27 #[tv (last + 1) now A1 (l.length + 1) c1, .int .i64 key] w fun e w' => ∃ A2 c2, e = .returned (.tuple #[tv (last + 1) now A2 l.length c2, .int .i64 0]) ∧ RowL w' A2 l.length c2 l ∧ Below w.heap.size w w') := by
    intro w A1 c1 h
    have h9 := revoke_any (last := last + 1) (now := now) key h (by omega)
    rw [b1] at h9
    exact h9
  have HG2 : ∀ w A2 c2, RowL w A2 l.length c2 l → Hid (Calls Try.prog 24 #[tv (last + 1) now A2 l.length c2, .int .i64 key, .int .i64 host, .int .i64 ttl] w fun e w' => ∃ A3 c3, e = .returned (.tuple #[tv (last + 1 + 1) now A3 (l.length + 1) c3, lv ⟨key, host, last + 1 + 1, now + ttl⟩, .int .i64 0]) ∧ RowL w' A3 (l.length + 1) c3 (putL l key ⟨key, host, last + 1 + 1, now + ttl⟩) ∧ Below w.heap.size w w') := by
    intro w A2 c2 h
    have h9 := grant_any (last := last + 1) (now := now) key host ttl h (by omega) (fun _ => wrap_last (by omega) (by omega)) (fun _ => hwt)
    rw [b2] at h9
    refine h9.mono ?_
    rintro e w' ⟨A1, c1, rfl, hA, hb⟩
    simp only at hA
    refine ⟨A1, c1, ?_, ?_, hb⟩
    · simp only [hpl]
    · rw [hpl] at hA; exact hA
  have HN1 : ∀ w A3 c3, RowL w A3 (l.length + 1) c3 (putL l key ⟨key, host, last + 1 + 1, now + ttl⟩) → Hid (Calls Try.prog 28 #[tv (last + 1 + 1) now A3 (l.length + 1) c3, .int .i64 key, .int .i64 host, .int .i64 (last + 1), .int .i64 ttl] w fun e w' => ∃ A4 c4, e = .returned (.tuple #[tv 0 0 A4 0 c4, .int .i64 61]) ∧ Below w.heap.size w w') := by
    intro w A3 c3 h
    have h9 := renew_any (last := last + 1 + 1) (now := now) key host (last + 1) ttl h (by omega) (fun _ _ => hwt)
    rw [b3] at h9
    refine h9.mono ?_
    rintro e w' ⟨A4, c4, rfl, -, hb⟩
    exact ⟨A4, c4, rfl, hb⟩
  have HN2 : ∀ w A3 c3, RowL w A3 (l.length + 1) c3 (putL l key ⟨key, host, last + 1 + 1, now + ttl⟩) → Hid (Calls Try.prog 28 #[tv (last + 1 + 1) now A3 (l.length + 1) c3, .int .i64 key, .int .i64 host, .int .i64 (last + 1 + 1), .int .i64 ttl] w fun e w' => ∃ A5 n5 c5, e = .returned (.tuple #[tv (last + 1 + 1) now A5 n5 c5, .int .i64 0]) ∧ Below w.heap.size w w') := by
    intro w A3 c3 h
    have h9 := renew_any (last := last + 1 + 1) (now := now) key host (last + 1 + 1) ttl h (by omega) (fun _ _ => hwt)
    rw [b4] at h9
    refine h9.mono ?_
    rintro e w' ⟨A5, c5, rfl, -, hb⟩
    exact ⟨A5, _, c5, rfl, hb⟩
  have HSL := fun w (A B : Option Addr) (c d : Nat) (h : RowL w A l.length c l) (h2 : RowL w B l.length d l) => Lib.hid (sameLeases_any h h2 (by omega))
  have hw : IntKind.i64.wrap (last + 1 + 1) = last + 1 + 1 := wrap_last (by omega) (by omega)
  obtain ⟨e1, he1⟩ : ∃ e1, last + 1 = e1 := ⟨_, rfl⟩
  rw [he1] at HG1 HV HG2 HN1 HN2 hw
  obtain ⟨e2, he2⟩ : ∃ e2, e1 + 1 = e2 := ⟨_, rfl⟩
  obtain ⟨til, htil⟩ : ∃ til, now + ttl = til := ⟨_, rfl⟩
  rw [he2] at HG2 HN1 HN2
  have hw2 : IntKind.i64.wrap (e1 + 1) = e2 := hw.trans he2
  clear hw
  rw [htil] at HG1 HV HG2 HN1 HN2
  clear b1 b2 b3 b4 hpl ho3 hwt hP hg hh hto he2 htil he1 HG hlb hnb hl0 hn0
  go_wp2_with fail
  refine (HG1 w4 (HR.out.below L4.out)).out.mono ?_
  rintro e w5 ⟨A1, c1, rfl, hA, hb⟩
  have L6 : Hid (Below w.heap.size w ((w5.alloc (.cells #[.int .i64 e1, .int .i64 now, .slice A1 (l.length + 1) c1] 24)).alloc (.cells #[.int .i64 key, .int .i64 host, .int .i64 e1, .int .i64 til] 43))) := ((L4.out.trans (hb.mono L4.out.size)).alloc (by have := hb.size; have := L4.out.size; omega) _).alloc (by have := hb.size; have := L4.out.size; simp; omega) _
  have B6 : Hid (TBox ((w5.alloc (.cells #[.int .i64 e1, .int .i64 now, .slice A1 (l.length + 1) c1] 24)).alloc (.cells #[.int .i64 key, .int .i64 host, .int .i64 e1, .int .i64 til] 43)) w.heap.size last now A l.length c) := Cells.alloc (Cells.alloc (Cells.below B4.out hb) _) _
  have U6 : Hid (TBox ((w5.alloc (.cells #[.int .i64 e1, .int .i64 now, .slice A1 (l.length + 1) c1] 24)).alloc (.cells #[.int .i64 key, .int .i64 host, .int .i64 e1, .int .i64 til] 43)) w5.heap.size e1 now A1 (l.length + 1) c1) := heap_alloc2_old w5 _ _
  have X6 : Hid (LBox ((w5.alloc (.cells #[.int .i64 e1, .int .i64 now, .slice A1 (l.length + 1) c1] 24)).alloc (.cells #[.int .i64 key, .int .i64 host, .int .i64 e1, .int .i64 til] 43)) (w5.heap.size + 1) ⟨key, host, e1, til⟩) := heap_alloc2_new w5 _ _
  have P6 : Hid (RowL ((w5.alloc (.cells #[.int .i64 e1, .int .i64 now, .slice A1 (l.length + 1) c1] 24)).alloc (.cells #[.int .i64 key, .int .i64 host, .int .i64 e1, .int .i64 til] 43)) A1 (l.length + 1) c1 (putL l key ⟨key, host, e1, til⟩)) := RowS.alloc (RowS.alloc hA _) _
  clear hb hA L4 B4 m0 m1 m2 HG1
  go_upto_region 5 with fail
  generalize ((w5.alloc (.cells #[.int .i64 e1, .int .i64 now, .slice A1 (l.length + 1) c1] 24)).alloc (.cells #[.int .i64 key, .int .i64 host, .int .i64 e1, .int .i64 til] 43)) = w6 at *
  generalize w5.heap.size + 1 = gx at *
  generalize w5.heap.size = gu at *
  obtain ⟨u0, u1, u2⟩ := TBox.cells U6.out
  go_wp2_with fail
  refine (HV w6 A1 c1 P6.out).out.mono ?_
  rintro e w7 ⟨A2, c2, rfl, hA, hb⟩
  have L8 : Hid (Below w.heap.size w (w7.alloc (.cells #[.int .i64 e1, .int .i64 now, .slice A2 l.length c2] 24))) := (L6.out.trans (hb.mono L6.out.size)).alloc (by have := hb.size; have := L6.out.size; omega) _
  have B8 : Hid (TBox (w7.alloc (.cells #[.int .i64 e1, .int .i64 now, .slice A2 l.length c2] 24)) w.heap.size last now A l.length c) := Cells.alloc (Cells.below B6.out hb) _
  have X8 : Hid (LBox (w7.alloc (.cells #[.int .i64 e1, .int .i64 now, .slice A2 l.length c2] 24)) gx ⟨key, host, e1, til⟩) := Cells.alloc (Cells.below X6.out hb) _
  have V8 : Hid (TBox (w7.alloc (.cells #[.int .i64 e1, .int .i64 now, .slice A2 l.length c2] 24)) w7.heap.size e1 now A2 l.length c2) := Cells.new _ _ _
  have Q8 : Hid (RowL (w7.alloc (.cells #[.int .i64 e1, .int .i64 now, .slice A2 l.length c2] 24)) A2 l.length c2 l) := RowS.alloc hA _
  clear hb hA L6 B6 U6 X6 P6 u0 u1 u2 HV
  go_upto_region 8 with fail
  generalize (w7.alloc (.cells #[.int .i64 e1, .int .i64 now, .slice A2 l.length c2] 24)) = w8 at *
  generalize w7.heap.size = gv at *
  obtain ⟨v0, v1, v2⟩ := TBox.cells V8.out
  go_wp2_with fail
  refine (HG2 w8 A2 c2 Q8.out).out.mono ?_
  rintro e w9 ⟨A3, c3, rfl, hA, hb⟩
  have L10 : Hid (Below w.heap.size w ((w9.alloc (.cells #[.int .i64 e2, .int .i64 now, .slice A3 (l.length + 1) c3] 24)).alloc (.cells #[.int .i64 key, .int .i64 host, .int .i64 e2, .int .i64 til] 43))) := ((L8.out.trans (hb.mono L8.out.size)).alloc (by have := hb.size; have := L8.out.size; omega) _).alloc (by have := hb.size; have := L8.out.size; simp; omega) _
  have B10 : Hid (TBox ((w9.alloc (.cells #[.int .i64 e2, .int .i64 now, .slice A3 (l.length + 1) c3] 24)).alloc (.cells #[.int .i64 key, .int .i64 host, .int .i64 e2, .int .i64 til] 43)) w.heap.size last now A l.length c) := Cells.alloc (Cells.alloc (Cells.below B8.out hb) _) _
  have X10 : Hid (LBox ((w9.alloc (.cells #[.int .i64 e2, .int .i64 now, .slice A3 (l.length + 1) c3] 24)).alloc (.cells #[.int .i64 key, .int .i64 host, .int .i64 e2, .int .i64 til] 43)) gx ⟨key, host, e1, til⟩) := Cells.alloc (Cells.alloc (Cells.below X8.out hb) _) _
  have V10 : Hid (TBox ((w9.alloc (.cells #[.int .i64 e2, .int .i64 now, .slice A3 (l.length + 1) c3] 24)).alloc (.cells #[.int .i64 key, .int .i64 host, .int .i64 e2, .int .i64 til] 43)) gv e1 now A2 l.length c2) := Cells.alloc (Cells.alloc (Cells.below V8.out hb) _) _
  have Q10 : Hid (RowL ((w9.alloc (.cells #[.int .i64 e2, .int .i64 now, .slice A3 (l.length + 1) c3] 24)).alloc (.cells #[.int .i64 key, .int .i64 host, .int .i64 e2, .int .i64 til] 43)) A2 l.length c2 l) := RowS.alloc (RowS.alloc (RowS.below Q8.out hb) _) _
  have W10 : Hid (TBox ((w9.alloc (.cells #[.int .i64 e2, .int .i64 now, .slice A3 (l.length + 1) c3] 24)).alloc (.cells #[.int .i64 key, .int .i64 host, .int .i64 e2, .int .i64 til] 43)) w9.heap.size e2 now A3 (l.length + 1) c3) := heap_alloc2_old w9 _ _
  have Y10 : Hid (LBox ((w9.alloc (.cells #[.int .i64 e2, .int .i64 now, .slice A3 (l.length + 1) c3] 24)).alloc (.cells #[.int .i64 key, .int .i64 host, .int .i64 e2, .int .i64 til] 43)) (w9.heap.size + 1) ⟨key, host, e2, til⟩) := heap_alloc2_new w9 _ _
  have P10 : Hid (RowL ((w9.alloc (.cells #[.int .i64 e2, .int .i64 now, .slice A3 (l.length + 1) c3] 24)).alloc (.cells #[.int .i64 key, .int .i64 host, .int .i64 e2, .int .i64 til] 43)) A3 (l.length + 1) c3 (putL l key ⟨key, host, e2, til⟩)) := RowS.alloc (RowS.alloc hA _) _
  clear hb hA L8 B8 X8 V8 Q8 v0 v1 v2 HG2
  go_upto_region 9 with fail
  generalize ((w9.alloc (.cells #[.int .i64 e2, .int .i64 now, .slice A3 (l.length + 1) c3] 24)).alloc (.cells #[.int .i64 key, .int .i64 host, .int .i64 e2, .int .i64 til] 43)) = w10 at *
  generalize w9.heap.size + 1 = gy at *
  generalize w9.heap.size = gw at *
  obtain ⟨v0, v1, v2⟩ := TBox.cells V10.out
  obtain ⟨x0, x1, x2, x3⟩ := LBox.cells X10.out
  obtain ⟨y0, y1, y2, y3⟩ := LBox.cells Y10.out
  obtain ⟨t0, t1, t2⟩ := TBox.cells W10.out
  go_wp2_with fail
  refine (HN1 w10 A3 c3 P10.out).out.mono ?_
  rintro e w11 ⟨A4, c4, rfl, hb⟩
  have L12 : Hid (Below w.heap.size w (w11.alloc (.cells #[.int .i64 0, .int .i64 0, .slice A4 0 c4] 24))) := (L10.out.trans (hb.mono L10.out.size)).alloc (by have := hb.size; have := L10.out.size; omega) _
  have B12 : Hid (TBox (w11.alloc (.cells #[.int .i64 0, .int .i64 0, .slice A4 0 c4] 24)) w.heap.size last now A l.length c) := Cells.alloc (Cells.below B10.out hb) _
  have V12 : Hid (TBox (w11.alloc (.cells #[.int .i64 0, .int .i64 0, .slice A4 0 c4] 24)) gv e1 now A2 l.length c2) := Cells.alloc (Cells.below V10.out hb) _
  have W12 : Hid (TBox (w11.alloc (.cells #[.int .i64 0, .int .i64 0, .slice A4 0 c4] 24)) gw e2 now A3 (l.length + 1) c3) := Cells.alloc (Cells.below W10.out hb) _
  have Y12 : Hid (LBox (w11.alloc (.cells #[.int .i64 0, .int .i64 0, .slice A4 0 c4] 24)) gy ⟨key, host, e2, til⟩) := Cells.alloc (Cells.below Y10.out hb) _
  have Q12 : Hid (RowL (w11.alloc (.cells #[.int .i64 0, .int .i64 0, .slice A4 0 c4] 24)) A2 l.length c2 l) := RowS.alloc (RowS.below Q10.out hb) _
  have P12 : Hid (RowL (w11.alloc (.cells #[.int .i64 0, .int .i64 0, .slice A4 0 c4] 24)) A3 (l.length + 1) c3 (putL l key ⟨key, host, e2, til⟩)) := RowS.alloc (RowS.below P10.out hb) _
  clear hb L10 B10 X10 V10 Q10 W10 Y10 P10 v0 v1 v2 x0 x1 x2 x3 y0 y1 y2 y3 t0 t1 t2 HN1
  go_upto_region 12 with fail
  generalize (w11.alloc (.cells #[.int .i64 0, .int .i64 0, .slice A4 0 c4] 24)) = w12 at *
  obtain ⟨y0, y1, y2, y3⟩ := LBox.cells Y12.out
  obtain ⟨t0, t1, t2⟩ := TBox.cells W12.out
  go_wp2_with fail
  refine (HN2 w12 A3 c3 P12.out).out.mono ?_
  rintro e w13 ⟨A5, n5, c5, rfl, hb⟩
  have L14 : Hid (Below w.heap.size w (w13.alloc (.cells #[.int .i64 e2, .int .i64 now, .slice A5 n5 c5] 24))) := (L12.out.trans (hb.mono L12.out.size)).alloc (by have := hb.size; have := L12.out.size; omega) _
  have B14 : Hid (TBox (w13.alloc (.cells #[.int .i64 e2, .int .i64 now, .slice A5 n5 c5] 24)) w.heap.size last now A l.length c) := Cells.alloc (Cells.below B12.out hb) _
  have V14 : Hid (TBox (w13.alloc (.cells #[.int .i64 e2, .int .i64 now, .slice A5 n5 c5] 24)) gv e1 now A2 l.length c2) := Cells.alloc (Cells.below V12.out hb) _
  have Q14 : Hid (RowL (w13.alloc (.cells #[.int .i64 e2, .int .i64 now, .slice A5 n5 c5] 24)) A2 l.length c2 l) := RowS.alloc (RowS.below Q12.out hb) _
  clear hb L12 B12 V12 Q12 W12 Y12 P12 y0 y1 y2 y3 t0 t1 t2 HN2
  go_upto_region 13 with fail
  generalize (w13.alloc (.cells #[.int .i64 e2, .int .i64 now, .slice A5 n5 c5] 24)) = w14 at *
  obtain ⟨m0, m1, m2⟩ := TBox.cells B14.out
  obtain ⟨v0, v1, v2⟩ := TBox.cells V14.out
  go_wp2_with fail
  refine (HSL w14 A2 A c2 c Q14.out (HR.out.below L14.out)).out.mono ?_
  rintro e w15 ⟨rfl, hb⟩
  have L15 := Lib.hid (L14.out.trans (hb.mono L14.out.size))
  clear hb
  go_wp2_with fail
  go_ret
  exact ⟨rfl, L15.out⟩
end Lea
end Go.Proofs.Ytehknenlifdchaa
