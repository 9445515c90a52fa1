/-
  WALKS: Of, Tick.
-/
import Derived.Test.YtehknenlifdchaaLeaCheck
namespace Go.Proofs.Ytehknenlifdchaa
open Go.RowKit Mem
namespace Lea

/-- One value in a block of its own is a row of one. -/
theorem Row.one {w : World} {q : Nat} {x : Int} {t : TypeId} (h : OneBox w q t (.int .i64 x)) : Row ci w (some ⟨q, 0, none⟩) 1 1 [x] := by
  refine ⟨rfl, by omega, by omega, fun _ => ⟨_, _, rfl, Cells.lt h, fun i y hy => ?_⟩⟩
  have hi : i = 0 := by have := (List.getElem?_eq_some_iff.1 hy).1; simpa using this
  subst hi
  simp at hy
  subst hy
  exact OneBox.cells h
/-- A row of ints, as a call gave it. -/
def GaveI (w : World) (l : List Int) (en : Ending) (w' : World) : Prop := ∃ B d, en = .returned (.slice B l.length d) ∧ Row ci w' B l.length d l ∧ Below w.heap.size w w'
theorem GaveI.nil {w w' : World} (hb : Below w.heap.size w w') : GaveI w [] (.returned (.slice none 0 0)) w' := ⟨none, 0, rfl, Row.nil _ _, hb⟩
theorem GaveI.of {w w' : World} {B : Option Addr} {k d : Nat} {l : List Int} (h : Owns ci 3 w.heap.size w' (.slice B k d) k l) (hk : k ≤ 140737488351232) (hb : Below w.heap.size w w') : GaveI w l (.returned (.slice B k d)) w' := by
  obtain rfl := h.len
  obtain ⟨A, c, e, hr⟩ := h.row hk
  injection e with e1 _ e3
  subst e1 e3
  exact ⟨B, d, rfl, hr, hb⟩
theorem ci_one : ∀ x : Int, (ci x).oneCell' = true := fun _ => rfl

set_option maxRecDepth 100000 in
set_option maxHeartbeats 3200000 in
theorem of_any {last now : Int} {A : Option Addr} {n c : Nat} {l : List Lv} {w : World} (host : Int) (h : RowL w A n c l) (hn : n ≤ 1000000) :
    Calls Try.prog 19 #[tv last now A n c, .int .i64 host] w (GaveI w (ofP ⟨last, now, l⟩ host)) := by
  have HR := Lib.hid h
  have hbig := h.big
  have hlen := Lib.hid h.len
  have HC := fun w (h : RowL w A n c l) => Lib.hid (check_any (last := last) (now := now) h hn)
  have L1 : Hid (Below w.heap.size w ((w.alloc (.cells #[.int .i64 last, .int .i64 now, .slice A n c] 24)).alloc (.cells #[.int .i64 host] 3))) := ((Below.refl w.heap.size w).alloc (Nat.le_refl _) _).alloc (by simp) _
  have B1 : Hid (TBox ((w.alloc (.cells #[.int .i64 last, .int .i64 now, .slice A n c] 24)).alloc (.cells #[.int .i64 host] 3)) w.heap.size last now A n c) := heap_alloc2_old w _ _
  have N1 : Hid (OneBox ((w.alloc (.cells #[.int .i64 last, .int .i64 now, .slice A n c] 24)).alloc (.cells #[.int .i64 host] 3)) (w.heap.size + 1) 3 (.int .i64 host)) := heap_alloc2_new w _ _
  have HP := fun w q (h : RowL w A n c l) (hq : OneBox w q 3 (.int .i64 host)) => Lib.hid (parted_any h hn 40 #[.pointer (some ⟨q, 0, none⟩)] (enters_of Try.func40 (by kernel_rfl) rfl) (fun x => x.host == host) (fun W x hW => of1_any host q x W (Cells.below hq hW)))
  clear h
  unfold ofP
  simp only
  rcases hok : okT ⟨last, now, l⟩
  · rw [hok] at HC
    go_enter Try.func19, Try.ntmps19
    go_upto_region 1 with fail
    generalize (w.alloc (.cells #[.int .i64 last, .int .i64 now, .slice A n c] 24)).alloc (.cells #[.int .i64 host] 3) = w1 at *
    obtain ⟨m0, m1, m2⟩ := TBox.cells B1.out
    go_wp2_with fail
    refine (HC w1 (HR.out.below L1.out)).out.mono ?_
    rintro e w2 ⟨rfl, hb⟩
    have L2 := Lib.hid (L1.out.trans (hb.mono L1.out.size))
    clear hb
    go_wp2_with fail
    go_ret
    exact GaveI.nil L2.out
  · rw [hok] at HC
    go_enter Try.func19, Try.ntmps19
    go_upto_region 1 with fail
    generalize (w.alloc (.cells #[.int .i64 last, .int .i64 now, .slice A n c] 24)).alloc (.cells #[.int .i64 host] 3) = w1 at *
    obtain ⟨m0, m1, m2⟩ := TBox.cells B1.out
    go_wp2_with fail
    refine (HC w1 (HR.out.below L1.out)).out.mono ?_
    rintro e w2 ⟨rfl, hb⟩
    have L2 := Lib.hid (L1.out.trans (hb.mono L1.out.size))
    have N2 := Lib.hid (Cells.below N1.out hb)
    have B2 := Lib.hid (Cells.below B1.out hb)
    clear hb m0 m1 m2 B1 N1 L1 HC
    obtain ⟨m0, m1, m2⟩ := TBox.cells B2.out
    go_wp2_with fail
    refine (HP w2 (w.heap.size + 1) (HR.out.below L2.out) N2.out).out.mono ?_
    rintro e w3 ⟨⟨X, i, x, Y, j, y, rfl, hO, -⟩, hb⟩
    have L3 := Lib.hid (L2.out.trans (hb.mono L2.out.size))
    obtain ⟨its, hits⟩ : ∃ its, its = l.filter (fun x => x.host == host) := ⟨_, rfl⟩
    rw [← hits] at hO
    have hin : i ≤ n := by rw [← hO.2, hits, ← hlen.out]; exact List.length_filter_le _ _
    have RX := Lib.hid (hO.row (by omega))
    have HI := Lib.hid hits
    clear hb m0 m1 m2 B2 N2 L2 HP hO hits
    go_wp2_with fail
    go_loopw [7, 9, 22] (fun s _ v wr => ∃ (k : Nat) (S : Option Addr) (m d : Nat), v = .int .i64 k ∧ s = .slice S m d ∧ k ≤ i ∧ m ≤ k ∧ Hid (Below w3.heap.size w3 wr ∧ Owns ci 3 w3.heap.size wr (.slice S m d) m ((its.take k).map Lv.key))) (fun _ _ v _ => i - (intOf v).toNat)
    case atStart => exact ⟨0, none, 0, 0, rfl, rfl, by omega, by omega, Below.refl _ _, Owns.nil _ _ _ _⟩
    case round =>
      obtain ⟨k, S, m, d, rfl, rfl, hk, hm, hH⟩ := hrel
      by_cases hlt : k < i
      · obtain ⟨z, hz⟩ := RX.out.get hlt
        obtain ⟨b, o, hA, c0, c1, c2, c3⟩ := RowS.lease_at (RX.out.below hH.out.1) hz
        subst hA
        have hk0 : (0 : Int) ≤ (k : Int) := by omega
        have hkn : (k : Int) < (i : Int) := by omega
        have htk : Hid (its.take (k + 1) = its.take k ++ [z]) := by show _ = _; rw [List.take_add_one, hz]; rfl
        clear hz
        have A1 : Hid (Below wr.heap.size wr (wr.alloc (.cells #[.int .i64 z.key, .int .i64 z.host, .int .i64 z.epoch, .int .i64 z.til] 43))) := (Below.refl _ wr).alloc (Nat.le_refl _) _
        have B1 : Hid (LBox (wr.alloc (.cells #[.int .i64 z.key, .int .i64 z.host, .int .i64 z.epoch, .int .i64 z.til] 43)) wr.heap.size z) := Cells.new _ _ _
        obtain ⟨n0, n1, n2, n3⟩ := LBox.cells B1.out
        go_upto_region 8 with fail
        generalize wr.alloc (.cells #[.int .i64 z.key, .int .i64 z.host, .int .i64 z.epoch, .int .i64 z.til] 43) = w4 at *
        have A5 : Hid (Below wr.heap.size wr (w4.alloc (.cells #[.int .i64 z.key] 3))) := A1.out.alloc A1.out.size _
        have B5 : Hid (OneBox (w4.alloc (.cells #[.int .i64 z.key] 3)) w4.heap.size 3 (.int .i64 z.key)) := Cells.new _ _ _
        go_wp2_with (at_builtin
                     refine wpList_append_row ci_one Try.underlying26 info_int rfl rfl (.tmp 26) (.tmp 29) rfl rfl w3.heap.size (.slice S m d) m _ rfl (hH.out.2.below A5.out) _ 1 1 [z.key] rfl (Row.one B5.out) (by omega) (by omega) (Nat.le_trans hH.out.1.size A5.out.size) ?_
                     intro A' c' w' h1 h2
                     have O6 := Lib.hid h1
                     have A6 := Lib.hid ((hH.out.1.trans (A5.out.mono hH.out.1.size)).trans h2)
                     clear h1 h2)
        go_roundw
        case rel => exact ⟨k + 1, A', m + 1, c', by go_num, rfl, by omega, by omega, A6.out, by rw [htk.out, List.map_append]; exact O6.out⟩
        case measure => simp [intOf]; omega
      · have hkn : its.take k = its := List.take_of_length_le (by have := RX.out.len; omega)
        have HK := Lib.hid hkn
        clear hkn
        go_wp2_with fail
        go_ret
        have h := hH.out
        rw [HK.out, HI.out] at h
        exact GaveI.of (h.2.mono L3.out.size) (by omega) (L3.out.trans (h.1.mono L3.out.size))

set_option maxRecDepth 100000 in
set_option maxHeartbeats 3200000 in
theorem tick_any {last now : Int} {A : Option Addr} {n c : Nat} {l : List Lv} {w : World} (to_ : Int) (h : RowL w A n c l) (hn : n ≤ 1000000) :
    Calls Try.prog 26 #[tv last now A n c, .int .i64 to_] w (GaveTL w (tickP ⟨last, now, l⟩ to_).1 (tickP ⟨last, now, l⟩ to_).2.1 (tickP ⟨last, now, l⟩ to_).2.2) := by
  have HR := Lib.hid h
  have hbig := h.big
  have hlen := Lib.hid h.len
  have HC := fun w (h : RowL w A n c l) => Lib.hid (check_any (last := last) (now := now) h hn)
  have L1 : Hid (Below w.heap.size w (((w.alloc (.cells #[.int .i64 last, .int .i64 now, .slice A n c] 24)).alloc (.cells #[.int .i64 to_] 3)).alloc (.cells #[.int .i64 0, .int .i64 0, .slice none 0 0] 24))) := (((Below.refl w.heap.size w).alloc (Nat.le_refl _) _).alloc (by simp) _).alloc (by simp; omega) _
  have B1 : Hid (TBox (((w.alloc (.cells #[.int .i64 last, .int .i64 now, .slice A n c] 24)).alloc (.cells #[.int .i64 to_] 3)).alloc (.cells #[.int .i64 0, .int .i64 0, .slice none 0 0] 24)) w.heap.size last now A n c) := Cells.alloc (Cells.alloc (Cells.new w _ _) _) _
  have N1 : Hid (OneBox (((w.alloc (.cells #[.int .i64 last, .int .i64 now, .slice A n c] 24)).alloc (.cells #[.int .i64 to_] 3)).alloc (.cells #[.int .i64 0, .int .i64 0, .slice none 0 0] 24)) (w.heap.size + 1) 3 (.int .i64 to_)) := Cells.alloc (by have := Cells.new (w.alloc (.cells #[.int .i64 last, .int .i64 now, .slice A n c] 24)) #[.int .i64 to_] 3; simpa using this) _
  have R1 : Hid (TBox (((w.alloc (.cells #[.int .i64 last, .int .i64 now, .slice A n c] 24)).alloc (.cells #[.int .i64 to_] 3)).alloc (.cells #[.int .i64 0, .int .i64 0, .slice none 0 0] 24)) (w.heap.size + 2) 0 0 none 0 0) := by
    have := Cells.new ((w.alloc (.cells #[.int .i64 last, .int .i64 now, .slice A n c] 24)).alloc (.cells #[.int .i64 to_] 3)) #[.int .i64 0, .int .i64 0, .slice none 0 0] 24
    exact (by simpa using this : Cells _ (w.heap.size + 1 + 1) _ _)
  have HP := fun w q (h : RowL w A n c l) (hq : OneBox w q 3 (.int .i64 to_)) => Lib.hid (parted_any h hn 48 #[.pointer (some ⟨q, 0, none⟩)] (enters_of Try.func48 (by kernel_rfl) rfl) (fun x => decide (x.til ≤ to_)) (fun W x hW => tick1_any to_ q x W (Cells.below hq hW)))
  clear h
  unfold tickP
  simp only
  have bad : ∀ w2, Below w.heap.size w w2 → GaveTL w zT [] 1 (.returned (.tuple #[tv 0 0 none 0 0, .slice none 0 0, .int .i64 1])) w2 := fun w2 hb => ⟨none, 0, none, 0, rfl, RowS.nil _ _ _, RowS.nil _ _ _, hb⟩
  have BAD := Lib.hid bad
  clear bad
  rcases hok : okT ⟨last, now, l⟩
  · rw [hok] at HC
    go_enter Try.func26, Try.ntmps26
    go_upto_region 1 with fail
    generalize ((w.alloc (.cells #[.int .i64 last, .int .i64 now, .slice A n c] 24)).alloc (.cells #[.int .i64 to_] 3)).alloc (.cells #[.int .i64 0, .int .i64 0, .slice none 0 0] 24) = w1 at *
    obtain ⟨m0, m1, m2⟩ := TBox.cells B1.out
    go_wp2_with fail
    refine (HC w1 (HR.out.below L1.out)).out.mono ?_
    rintro e w2 ⟨rfl, hb⟩
    have L2 := Lib.hid (L1.out.trans (hb.mono L1.out.size))
    have R2 := Lib.hid (Cells.below R1.out hb)
    clear hb
    obtain ⟨z0, z1, z2⟩ := TBox.cells R2.out
    obtain ⟨f0, f1, f2⟩ := TBox.frozen R2.out
    go_wp2_with fail
    refine bodyPost_ret_by (results_c2 rfl _ _ (w.heap.size + 2) _ _ _ _ rfl (Cells.set3 R2.out (.int .i64 0) (.int .i64 0) (.slice none 0 0)) Try.underlying24 rfl (by kernel_rfl)) rfl ?_
    exact BAD.out _ (below3 L2.out (by omega) _ _ _)
  · rw [hok] at HC
    rcases hlt : decide (to_ < now)
    · go_enter Try.func26, Try.ntmps26
      go_upto_region 1 with fail
      generalize ((w.alloc (.cells #[.int .i64 last, .int .i64 now, .slice A n c] 24)).alloc (.cells #[.int .i64 to_] 3)).alloc (.cells #[.int .i64 0, .int .i64 0, .slice none 0 0] 24) = w1 at *
      obtain ⟨m0, m1, m2⟩ := TBox.cells B1.out
      go_wp2_with fail
      refine (HC w1 (HR.out.below L1.out)).out.mono ?_
      rintro e w2 ⟨rfl, hb⟩
      have L2 := Lib.hid (L1.out.trans (hb.mono L1.out.size))
      have R2 := Lib.hid (Cells.below R1.out hb)
      have N2 := Lib.hid (Cells.below N1.out hb)
      have B2 := Lib.hid (Cells.below B1.out hb)
      clear hb m0 m1 m2 B1 N1 L1 R1 HC
      obtain ⟨m0, m1, m2⟩ := TBox.cells B2.out
      have q0 := OneBox.cells N2.out
      go_wp2_with fail
      refine (HP w2 (w.heap.size + 1) (HR.out.below L2.out) N2.out).out.mono ?_
      rintro e w3 ⟨⟨X, i, x, Y, j, y, rfl, hO, hO2⟩, hb⟩
      have L3 := Lib.hid (L2.out.trans (hb.mono L2.out.size))
      have R3 := Lib.hid (Cells.below R2.out hb)
      have N3 := Lib.hid (Cells.below N2.out hb)
      have B3 := Lib.hid (Cells.below B2.out hb)
      have FIN : Hid (∀ w9, But (w.heap.size + 2) w3 w9 → GaveTL w ⟨last, to_, l.filter (fun x => !decide (x.til ≤ to_))⟩ (l.filter (fun x => decide (x.til ≤ to_))) 0 (.returned (.tuple #[tv last to_ Y j y, .slice X i x, .int .i64 0])) w9) := by
        show ∀ _, _
        intro w9 hB
        have e1 := hO.2
        have e2 := hO2.2
        have n1 : i ≤ n := by rw [← e1, ← hlen.out]; exact List.length_filter_le _ _
        have n2 : j ≤ n := by rw [← e2, ← hlen.out]; exact List.length_filter_le _ _
        have r1 := (hO.but hB (Cells.lt R2.out)).row (by omega)
        have r2 := (hO2.but hB (Cells.lt R2.out)).row (by omega)
        subst e1 e2
        exact ⟨Y, y, X, x, rfl, r2, r1, L3.out.trans (hB.below L3.out.size (by omega))⟩
      clear hb m0 m1 m2 q0 B2 N2 L2 R2 HP hO hO2
      obtain ⟨m0, m1, m2⟩ := TBox.cells B3.out
      have q0 := OneBox.cells N3.out
      obtain ⟨z0, z1, z2⟩ := TBox.cells R3.out
      obtain ⟨f0, f1, f2⟩ := TBox.frozen R3.out
      go_wp2_with fail
      refine bodyPost_ret_by (results_c2 rfl _ _ (w.heap.size + 2) _ _ _ _ rfl (Cells.set3 R3.out (.int .i64 last) (.int .i64 to_) (.slice Y j y)) Try.underlying24 rfl (by kernel_rfl)) rfl ?_
      exact FIN.out _ (But.set3 _ _ _ _ _)
    · go_enter Try.func26, Try.ntmps26
      go_upto_region 1 with fail
      generalize ((w.alloc (.cells #[.int .i64 last, .int .i64 now, .slice A n c] 24)).alloc (.cells #[.int .i64 to_] 3)).alloc (.cells #[.int .i64 0, .int .i64 0, .slice none 0 0] 24) = w1 at *
      obtain ⟨m0, m1, m2⟩ := TBox.cells B1.out
      go_wp2_with fail
      refine (HC w1 (HR.out.below L1.out)).out.mono ?_
      rintro e w2 ⟨rfl, hb⟩
      have L2 := Lib.hid (L1.out.trans (hb.mono L1.out.size))
      have R2 := Lib.hid (Cells.below R1.out hb)
      have N2 := Lib.hid (Cells.below N1.out hb)
      have B2 := Lib.hid (Cells.below B1.out hb)
      clear hb m0 m1 m2 B1 N1 L1 R1 HC
      obtain ⟨m0, m1, m2⟩ := TBox.cells B2.out
      have q0 := OneBox.cells N2.out
      obtain ⟨z0, z1, z2⟩ := TBox.cells R2.out
      obtain ⟨f0, f1, f2⟩ := TBox.frozen R2.out
      go_wp2_with fail
      refine bodyPost_ret_by (results_c2 rfl _ _ (w.heap.size + 2) _ _ _ _ rfl (Cells.set3 R2.out (.int .i64 0) (.int .i64 0) (.slice none 0 0)) Try.underlying24 rfl (by kernel_rfl)) rfl ?_
      exact BAD.out _ (below3 L2.out (by omega) _ _ _)
end Lea
end Go.Proofs.Ytehknenlifdchaa
