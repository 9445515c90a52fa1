/-
  WALKS: live.Waste.
-/
import Derived.Test.YtnnphpfobdcmbaaLivZones
namespace Go.Proofs.Ytnnphpfobdcmbaa
open Go.RowKit Mem Ext Zon Zns
namespace Liv

set_option maxRecDepth 100000 in
set_option maxHeartbeats 6400000 in
theorem waste_any {d : Dx} {w : World} (h : DevAt w d) {B : Option Addr} {m e : Nat} {l : List Ext.Ex} (hl : RowL w B m e l) (hs : SmallN l) :
    Calls Try.prog 19 #[dxv d, .slice B m e] w fun en w' => en = .returned (.tuple #[.int .i64 (wasteP d l), .int .i64 (Zon.errOf (needB d l))]) ∧ Below w.heap.size w w' := by
  have HK := fun w (h : DevAt w d) (hl : RowL w B m e l) => Lib.hid (counts_any h hl hs)
  have HN := fun (hk : needB d l = true) => okD_n h (by unfold needB at hk; simp only [Bool.and_eq_true] at hk; exact hk.1)
  have HOK := fun (hk : needB d l = true) => okE_iff.1 (by unfold needB at hk; simp only [Bool.and_eq_true] at hk; exact hk.2)
  have HZL := fun (hk : needB d l = true) => okD_len h (by unfold needB at hk; simp only [Bool.and_eq_true] at hk; exact hk.1)
  have hbig := h.row.big
  have HD := Lib.hid h
  have HL := Lib.hid hl
  have hpl := h.plen
  unfold wasteP
  generalize hok : needB d l = ok at *
  obtain ⟨cap, op, ac, A, n, c, xs⟩ := d
  have L1 := Lib.hid ((Below.refl w.heap.size w).alloc (Nat.le_refl _) (.cells #[.int .i64 cap, .int .i64 op, .int .i64 ac, .slice A n c] 38))
  have B1 := Lib.hid (DBox.new w ⟨cap, op, ac, A, n, c, xs⟩)
  have hpl : (xs.map Zv.z).length = n := hpl
  unfold dxv at *
  dsimp only at *
  clear h hl hs hok
  rcases ok with _ | _
  · clear HN HOK HZL
    have er : Zon.errOf false = 1 := rfl
    rw [er] at HK ⊢
    clear er
    go_enter Try.func19, Try.ntmps19
    go_upto_region 1 with fail
    generalize w.alloc (.cells #[.int .i64 cap, .int .i64 op, .int .i64 ac, .slice A n c] 38) = w1 at *
    obtain ⟨m0, m1, m2, m3⟩ := B1.out.cells
    dsimp only at m0 m1 m2 m3
    go_wp2_with (go_at_call 32; refine (HK w1 (HD.out.below L1.out) (HL.out.below L1.out)).out.mono ?_; rintro e w2 ⟨⟨X, i, f, rfl, -, -⟩, hb⟩; have L2 := Lib.hid (L1.out.trans (hb.mono L1.out.size)); clear hb)
    go_ret2
    exact ⟨rfl, L2.out⟩
  · have hn64 := (HN rfl).2.1
    have HZ := Lib.hid (HZL rfl)
    have HOK2 := Lib.hid (HOK rfl)
    have HIN := fun k (hk : k ≤ n) => Lib.hid (waste_in (zs := xs.map Zv.z) (by intro x hx; obtain ⟨y, hy, rfl⟩ := List.mem_map.1 hx; exact HZ.out y hy) HOK2.out k (by omega))
    clear HN HOK HZL
    have er : Zon.errOf true = 0 := rfl
    rw [er] at HK ⊢
    clear er
    go_enter Try.func19, Try.ntmps19
    go_upto_region 1 with fail
    generalize w.alloc (.cells #[.int .i64 cap, .int .i64 op, .int .i64 ac, .slice A n c] 38) = w1 at *
    obtain ⟨m0, m1, m2, m3⟩ := B1.out.cells
    dsimp only at m0 m1 m2 m3
    go_wp2_with (go_at_call 32; refine (HK w1 (HD.out.below L1.out) (HL.out.below L1.out)).out.mono ?_; rintro e w2 ⟨⟨X, i, f, rfl, hr, -⟩, hb⟩; have L2 := Lib.hid (L1.out.trans (hb.mono L1.out.size)); have R2 := Lib.hid (show Row ci w2 X i f (cnts n l) from hr); have B2 := Lib.hid (Ext.Cells.below B1.out hb); clear hb hr; obtain ⟨q0, q1, q2, q3⟩ := DBox.cells B2.out; dsimp only at q0 q1 q2 q3)
    obtain rfl : n = i := by have := R2.out.len; rw [cnts_len] at this; exact this
    clear m0 m1 m2 m3 q0 q1 q2 q3
    go_loopw [8, 9, 10, 23] (fun s _ _ v wr => ∃ (k : Nat) (u : Int), v = .int .i64 k ∧ s = .int .i64 u ∧ k ≤ n ∧ Hid (Below w.heap.size w wr ∧ Below w2.heap.size w2 wr ∧ u = wasteS (xs.map Zv.z) l k)) (fun _ _ _ v _ => n - (intOf v).toNat)
    case atStart => exact ⟨0, 0, rfl, rfl, by omega, L2.out, Below.refl _ _, rfl⟩
    case round =>
      obtain ⟨k, u, rfl, rfl, hk, hH⟩ := hrel
      by_cases hlt : k < n
      · obtain ⟨x, hx⟩ := HD.out.row.get hlt
        have hx : xs[k]? = some x := hx
        obtain ⟨b, o, hA, hb, hc⟩ := HD.out.row.elem hx
        have hA : A = some ⟨b, o, none⟩ := hA
        subst hA
        have c0 : wr.cell? ⟨b, o + k * 3, none⟩ = some (.int .i64 x.z.st) := hc wr (hH.out.1.block b hb) 0 _ rfl
        have c1 : wr.cell? ⟨b, o + k * 3 + 1, none⟩ = some (.int .i64 x.z.fc) := hc wr (hH.out.1.block b hb) 1 _ rfl
        have c2 : wr.cell? ⟨b, o + k * 3 + 2, none⟩ = some (.slice x.D x.z.data.length x.c) := hc wr (hH.out.1.block b hb) 2 _ rfl
        obtain ⟨b2, o2, hB, c3⟩ := (R2.out.below hH.out.2.1).cell (cnts_get l hlt)
        subst hB
        have hk0 : (0 : Int) ≤ (k : Int) := by omega
        have hk1 : (k : Int) < (n : Int) := by omega
        have HWH := fun w => Lib.hid (whole_any x.z x.D x.c (by have := HZ.out x (List.mem_of_getElem? hx); omega) w)
        unfold zv at HWH
        have h1 := (HIN k hk).out
        have h2 := (HIN (k + 1) hlt).out
        rw [← hH.out.2.2] at h1
        have HST : Hid (wasteS (xs.map Zv.z) l (k + 1) = u + ((wholeP x.z : Nat) - cntZ (k : Int) l)) := by
          show _ = _
          rw [hH.out.2.2]
          show wasteS (xs.map Zv.z) l k + ((wholeP (atI (xs.map Zv.z) k) : Nat) - cntZ (k : Int) l) = _
          rw [atI_of hx]
        rw [HST.out] at h2
        have h3 := cntZ_in HOK2.out (by omega) (k : Int)
        have hwl : wholeP x.z ≤ 65536 := by have := HZ.out x (List.mem_of_getElem? hx); unfold wholeP; omega
        have HX := Lib.hid hx
        have A1 : Hid (Below wr.heap.size wr (wr.alloc (.cells #[.int .i64 x.z.st, .int .i64 x.z.fc, .slice x.D x.z.data.length x.c] 46))) := (Below.refl _ wr).alloc (Nat.le_refl _) _
        have B3 := Lib.hid (Box.new wr x.z x.D x.c)
        clear hc hx
        go_upto_region 8 with fail
        have L3 := Lib.hid (hH.out.1.trans (A1.out.mono hH.out.1.size))
        have M3 := Lib.hid (hH.out.2.1.trans (A1.out.mono hH.out.2.1.size))
        generalize wr.alloc (.cells #[.int .i64 x.z.st, .int .i64 x.z.fc, .slice x.D x.z.data.length x.c] 46) = w3 at *
        have HS := fun W (hW : Below w3.heap.size w3 W) => (show _ ∧ _ ∧ _ ∧ _ from ⟨(B3.out.below hW).cells.1, (B3.out.below hW).cells.2.1, (B3.out.below hW).cells.2.2, (show W.cell? ⟨b2, o2 + k, none⟩ = some (.int .i64 (cntZ (k : Int) l)) from by
          obtain ⟨b4, o4, hB4, c4⟩ := (R2.out.below (M3.out.trans (hW.mono M3.out.size))).cell (cnts_get l hlt)
          injection hB4 with hB4; injection hB4 with h1 h2; subst h1 h2; exact c4)⟩)
        generalize hcv : cntZ (k : Int) l = v at *
        generalize hwv : wholeP x.z = u2 at *
        have hw1 : IntKind.i64.wrap ((u2 : Int) - v) = (u2 : Int) - v := Ext.wrap_small (by omega) (by omega)
        have hw2 : IntKind.i64.wrap (u + ((u2 : Int) - v)) = u + ((u2 : Int) - v) := Ext.wrap_small (by omega) (by omega)
        clear c0 c1 c2 c3 A1 h1 h2 h3
        have N3 : Hid (Below w3.heap.size w3 w3) := Below.refl _ _
        have L4 := Lib.hid (L3.out.drew)
        have M4 := Lib.hid (M3.out.drew)
        have N4 := Lib.hid (N3.out.drew)
        refine wp_region_held_drew (S := fun W => W.cell? ⟨wr.heap.size, 0, none⟩ = some (.int .i64 x.z.st) ∧ W.cell? ⟨wr.heap.size, 1, none⟩ = some (.int .i64 x.z.fc) ∧ W.cell? ⟨wr.heap.size, 2, none⟩ = some (.slice x.D x.z.data.length x.c) ∧ W.cell? ⟨b2, o2 + k, none⟩ = some (.int .i64 v)) (by kernel_rfl) (HS _ N4.out) (fun hHeld => ?_)
        generalize w3.drew = w4 at *
        clear L3 M3 N3
        (first | (refine Reg.take 0 (v := ?_) rfl (by kernel_rfl) (by kernel_rfl) (by kernel_rfl) (fun _ _ _ h => h) (Or.inl ⟨by rfl, ?_⟩) (by assumption) ?_; rotate_left; (focus ((intro W hSW); (try dsimp only at hSW); (try go_split_ands); go_simp; (try (with_reducible rfl)); done))) | (refine Reg.take 0 (v := undef) rfl (by kernel_rfl) (by kernel_rfl) (by kernel_rfl) (fun _ _ _ h => h) (Or.inr ⟨by rfl, rfl⟩) (by assumption) ?_))
        (try simp only [Act.put, List.setIfInBounds_toArray, List.set_cons_zero, List.set_cons_succ])
        (first | (refine Reg.take 1 (v := ?_) rfl (by kernel_rfl) (by kernel_rfl) (by kernel_rfl) (fun _ _ _ h => h) (Or.inl ⟨by rfl, ?_⟩) (by assumption) ?_; rotate_left; (focus ((intro W hSW); (try dsimp only at hSW); (try go_split_ands); go_simp; (try (with_reducible rfl)); done))) | (refine Reg.take 1 (v := undef) rfl (by kernel_rfl) (by kernel_rfl) (by kernel_rfl) (fun _ _ _ h => h) (Or.inr ⟨by rfl, rfl⟩) (by assumption) ?_))
        (try simp only [Act.put, List.setIfInBounds_toArray, List.set_cons_zero, List.set_cons_succ])
        (first | (refine Reg.take 3 (v := ?_) rfl (by kernel_rfl) (by kernel_rfl) (by kernel_rfl) (fun _ _ _ h => h) (Or.inl ⟨by rfl, ?_⟩) (by assumption) ?_; rotate_left; (focus ((intro W hSW); (try dsimp only at hSW); (try go_split_ands); go_simp; (try (with_reducible rfl)); done))) | (refine Reg.take 3 (v := undef) rfl (by kernel_rfl) (by kernel_rfl) (by kernel_rfl) (fun _ _ _ h => h) (Or.inr ⟨by rfl, rfl⟩) (by assumption) ?_))
        (try simp only [Act.put, List.setIfInBounds_toArray, List.set_cons_zero, List.set_cons_succ])
        (first | (refine Reg.take 4 (v := ?_) rfl (by kernel_rfl) (by kernel_rfl) (by kernel_rfl) (fun _ _ _ h => h) (Or.inl ⟨by rfl, ?_⟩) (by assumption) ?_; rotate_left; (focus ((intro W hSW); (try dsimp only at hSW); (try go_split_ands); go_simp; (try (with_reducible rfl)); done))) | (refine Reg.take 4 (v := undef) rfl (by kernel_rfl) (by kernel_rfl) (by kernel_rfl) (fun _ _ _ h => h) (Or.inr ⟨by rfl, rfl⟩) (by assumption) ?_))
        (try simp only [Act.put, List.setIfInBounds_toArray, List.set_cons_zero, List.set_cons_succ])
        (first | (refine Reg.take 5 (v := ?_) rfl (by kernel_rfl) (by kernel_rfl) (by kernel_rfl) (fun _ _ _ h => h) (Or.inl ⟨by rfl, ?_⟩) (by assumption) ?_; rotate_left; (focus ((intro W hSW); (try dsimp only at hSW); (try go_split_ands); go_simp; (try (with_reducible rfl)); done))) | (refine Reg.take 5 (v := undef) rfl (by kernel_rfl) (by kernel_rfl) (by kernel_rfl) (fun _ _ _ h => h) (Or.inr ⟨by rfl, rfl⟩) (by assumption) ?_))
        (try simp only [Act.put, List.setIfInBounds_toArray, List.set_cons_zero, List.set_cons_succ])
        (first | (refine Reg.take 6 (v := ?_) rfl (by kernel_rfl) (by kernel_rfl) (by kernel_rfl) (fun _ _ _ h => h) (Or.inl ⟨by rfl, ?_⟩) (by assumption) ?_; rotate_left; (focus ((intro W hSW); (try dsimp only at hSW); (try go_split_ands); go_simp; (try (with_reducible rfl)); done))) | (refine Reg.take 6 (v := undef) rfl (by kernel_rfl) (by kernel_rfl) (by kernel_rfl) (fun _ _ _ h => h) (Or.inr ⟨by rfl, rfl⟩) (by assumption) ?_))
        (try simp only [Act.put, List.setIfInBounds_toArray, List.set_cons_zero, List.set_cons_succ])
        refine Reg.step 2 rfl (by kernel_rfl) (by rfl) (fun K hK => ?_)
        go_simp
        refine (HWH w4).out.mono ?_
        rintro e' w5 ⟨rfl, hb⟩
        have L5 := Lib.hid (L4.out.trans (hb.mono L4.out.size))
        have M5 := Lib.hid (M4.out.trans (hb.mono M4.out.size))
        have N5 := Lib.hid (N4.out.trans (hb.mono N4.out.size))
        clear hb L4 M4 N4
        refine hK.out _ _ (HS _ N5.out) (fun hHeld => ?_)
        clear hK K
        (try simp only [Act.put, List.setIfInBounds_toArray, List.set_cons_zero, List.set_cons_succ])
        (first | (refine Reg.take 7 (v := ?_) rfl (by kernel_rfl) (by kernel_rfl) (by kernel_rfl) (fun _ _ _ h => h) (Or.inl ⟨by rfl, ?_⟩) (by assumption) ?_; rotate_left; (focus ((intro W hSW); (try dsimp only at hSW); (try go_split_ands); go_simp; (try (with_reducible rfl)); done))) | (refine Reg.take 7 (v := undef) rfl (by kernel_rfl) (by kernel_rfl) (by kernel_rfl) (fun _ _ _ h => h) (Or.inr ⟨by rfl, rfl⟩) (by assumption) ?_))
        (try simp only [Act.put, List.setIfInBounds_toArray, List.set_cons_zero, List.set_cons_succ])
        (first | (refine Reg.take 8 (v := ?_) rfl (by kernel_rfl) (by kernel_rfl) (by kernel_rfl) (fun _ _ _ h => h) (Or.inl ⟨by rfl, ?_⟩) (by assumption) ?_; rotate_left; (focus ((intro W hSW); (try dsimp only at hSW); (try go_split_ands); go_simp; (try (with_reducible rfl)); done))) | (refine Reg.take 8 (v := undef) rfl (by kernel_rfl) (by kernel_rfl) (by kernel_rfl) (fun _ _ _ h => h) (Or.inr ⟨by rfl, rfl⟩) (by assumption) ?_))
        (try simp only [Act.put, List.setIfInBounds_toArray, List.set_cons_zero, List.set_cons_succ])
        (first | (refine Reg.take 9 (v := ?_) rfl (by kernel_rfl) (by kernel_rfl) (by kernel_rfl) (fun _ _ _ h => h) (Or.inl ⟨by rfl, ?_⟩) (by assumption) ?_; rotate_left; (focus ((intro W hSW); (try dsimp only at hSW); (try go_split_ands); go_simp; (try (with_reducible rfl)); done))) | (refine Reg.take 9 (v := undef) rfl (by kernel_rfl) (by kernel_rfl) (by kernel_rfl) (fun _ _ _ h => h) (Or.inr ⟨by rfl, rfl⟩) (by assumption) ?_))
        (try simp only [Act.put, List.setIfInBounds_toArray, List.set_cons_zero, List.set_cons_succ])
        refine wpAnyH_done (by kernel_rfl) ?_ _
        clear hHeld
        go_wp2_with fail
        go_roundw
        case rel => exact ⟨k + 1, u + ((u2 : Int) - v), by go_num, rfl, by omega, L5.out, M5.out, HST.out.symm⟩
        case measure => simp [intOf]; omega
      · have hkn : k = n := by omega
        have HK2 := Lib.hid hkn
        clear hkn
        have hmax := run_max2 (x := u) (y := 0)
        go_wp2_with fail
        go_ret2
        exact ⟨by rw [← HK2.out, ← hH.out.2.2]; rfl, hH.out.1⟩
end Liv
end Go.Proofs.Ytnnphpfobdcmbaa
