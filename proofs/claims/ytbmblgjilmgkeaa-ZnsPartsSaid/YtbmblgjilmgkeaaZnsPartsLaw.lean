/-
  THE STATEMENT ZnsParts: commands to other zones than one change nothing that is read there; two devices that are the same stay so; the arguments stay as they were. For every input. (Written by gen_laws.py.)
-/
import Derived.Test.YtbmblgjilmgkeaaZnsLawP
namespace Go.Proofs.Ytbmblgjilmgkeaa
open Go.ChangeShapes Go.WideShapes Go.ChangeAt Go.RowKit Mem Zon
namespace Zns

set_option maxRecDepth 100000 in
set_option maxHeartbeats 25600000 in
theorem znsParts_walk {d : Dx} {L : Option Addr} {m lc : Nat} {cs : List Cx} {w : World} (h : DevAt w d) (hl : RowS cellsC 6 w L m lc cs) (hcs : ∀ x ∈ cs, CmdAt w x) (zone : Int) :
    Calls Try.prog 7 #[dxv d, .slice L m lc, .int .i64 zone] w fun e w' => e = .returned (.bool true) ∧ Below w.heap.size w w' := by
  have HR := Lib.hid h
  have HL := Lib.hid hl
  have HCS := Lib.hid hcs
  have HF := fun w (h : DevAt w d) (hl : RowS cellsC 6 w L m lc cs) => Lib.hid (few_any h hl)
  have HCk := fun w (h : DevAt w d) => Lib.hid (refCheck_dev h)
  have HDo := fun X x w (h : DevAt w X) (hn : X.n ≤ 1000) (hc : CmdAt w x) (hok : okD X.p = true) => Lib.hid (do_law h hn hc hok)
  have HSm := fun X Y w (h1 : DevAt w X) (h2 : DevAt w Y) (e : X.p = Y.p) => Lib.hid (znsSame_eq h1 h2 e)
  have HSD := fun x y w (h1 : DoneAt w x) (h2 : DoneAt w y) (e : x.p = y.p) => Lib.hid (sameDone_eq h1 h2 e)
  have HCp := fun X w (h : DevAt w X) (hn : X.n ≤ 1000) => Lib.hid (refCopy_any h hn)
  have L1 : Hid (Below w.heap.size w (w.alloc (.cells #[.int .i64 d.cap, .int .i64 d.op, .int .i64 d.ac, .slice d.A d.n d.c] 25))) := (Below.refl _ w).alloc (Nat.le_refl _) _
  have B1 := Lib.hid (DBox.new w d)
  clear h hl hcs
  unfold dxv cxv exv at *
  go_enter Try.func7, Try.ntmps7
  go_upto_region 1 with fail
  generalize w.alloc (.cells #[.int .i64 d.cap, .int .i64 d.op, .int .i64 d.ac, .slice d.A d.n d.c] 25) = w1 at *
  go_wp2_with fail
  refine (live_any w1).mono ?_
  rintro e w2 ⟨rfl, hb⟩
  have L2 := Lib.hid (L1.out.trans (hb.mono L1.out.size))
  have B2 := Lib.hid (B1.out.below hb)
  clear hb L1 B1
  obtain ⟨m0, m1, m2, m3⟩ := B2.out.cells
  go_wp2_with fail
  refine (HF w2 (HR.out.below L2.out) (RowS.below HL.out L2.out)).out.mono ?_
  rintro e w3 ⟨⟨b, rfl, hfew⟩, hb⟩
  have HFW := Lib.hid hfew
  have L3 := Lib.hid (L2.out.trans (hb.mono L2.out.size))
  have B3 := Lib.hid (B2.out.below hb)
  clear hb hfew L2 B2 m0 m1 m2 m3 HF
  obtain ⟨m0, m1, m2, m3⟩ := B3.out.cells
  rcases b
  · go_wp2_with fail
    go_ret
    exact ⟨rfl, L3.out⟩
  obtain ⟨hn, hm⟩ := HFW.out rfl
  have hCk := HCk w3 (HR.out.below L3.out)
  rcases hok : okD d.p
  · rw [hok] at hCk
    unfold errOf at hCk
    simp only [cond_false] at hCk
    clear hok
    go_wp2_with fail
    refine hCk.out.mono ?_
    rintro e w4 ⟨rfl, hb⟩
    have L4 := Lib.hid (L3.out.trans (hb.mono L3.out.size))
    clear hb
    go_wp2_with fail
    go_ret
    exact ⟨rfl, L4.out⟩
  rw [hok] at hCk
  have HOK := Lib.hid hok
  unfold errOf at hCk
  simp only [cond_true] at hCk
  clear hok
  go_wp2_with fail
  refine hCk.out.mono ?_
  rintro e w4 ⟨rfl, hb⟩
  have L4 := Lib.hid (L3.out.trans (hb.mono L3.out.size))
  have B4 := Lib.hid (B3.out.below hb)
  clear hb L3 B3 m0 m1 m2 m3 HCk hCk HFW
  obtain ⟨m0, m1, m2, m3⟩ := B4.out.cells
  obtain ⟨hp1, hp2⟩ := pos_n HR.out HOK.out
  obtain ⟨r, i, q1, q2, q3, q4, q5, q6⟩ := Cut.cut_at zone d.n hp1
  have hn0 : ¬ d.n = 0 := by omega
  have hr1 : IntKind.i64.wrap r = r := by rw [IntKind.wrap_i64]; omega
  have hr2 : IntKind.i64.wrap (r + d.n) = r + d.n := by rw [IntKind.wrap_i64]; omega
  have hr3 : IntKind.i64.wrap (i : Int) = (i : Int) := by rw [IntKind.wrap_i64]; omega
  have hi0 : (0 : Int) ≤ (i : Int) := by omega
  have hi1 : (i : Int) < (d.n : Int) := by omega
  have B5 : Hid (DBox w4.drew w.heap.size d) := B4
  have L5 := Lib.hid L4.out.drew
  go_upto_region 4 with fail
  refine wp_region_held_drew (S := fun W => W.cell? ⟨w.heap.size, 3, none⟩ = some (.slice d.A d.n d.c)) (by kernel_rfl) m3 (fun hHeld => ?_)
  clear m0 m1 m2 m3 L4 B4
  generalize w4.drew = w5 at *
  (first | (refine Reg.take 0 (v := ?_) rfl (by kernel_rfl) (by kernel_rfl) (by kernel_rfl) (fun _ _ _ h => h) (Or.inl ⟨by rfl, ?_⟩) (by assumption) ?_; rotate_left; (focus ((intro W hSW); (try dsimp only at hSW); (try go_split_ands); go_simp; (try (with_reducible rfl)); done))) | (refine Reg.take 0 (v := undef) rfl (by kernel_rfl) (by kernel_rfl) (by kernel_rfl) (fun _ _ _ h => h) (Or.inr ⟨by rfl, rfl⟩) (by assumption) ?_))
  (try simp only [Act.put, List.setIfInBounds_toArray, List.set_cons_zero, List.set_cons_succ])
  (first | (refine Reg.take 1 (v := ?_) rfl (by kernel_rfl) (by kernel_rfl) (by kernel_rfl) (fun _ _ _ h => h) (Or.inl ⟨by rfl, ?_⟩) (by assumption) ?_; rotate_left; (focus ((intro W hSW); (try dsimp only at hSW); (try go_split_ands); go_simp; (try (with_reducible rfl)); done))) | (refine Reg.take 1 (v := undef) rfl (by kernel_rfl) (by kernel_rfl) (by kernel_rfl) (fun _ _ _ h => h) (Or.inr ⟨by rfl, rfl⟩) (by assumption) ?_))
  (try simp only [Act.put, List.setIfInBounds_toArray, List.set_cons_zero, List.set_cons_succ])
  (first | (refine Reg.take 2 (v := ?_) rfl (by kernel_rfl) (by kernel_rfl) (by kernel_rfl) (fun _ _ _ h => h) (Or.inl ⟨by rfl, ?_⟩) (by assumption) ?_; rotate_left; (focus ((intro W hSW); (try dsimp only at hSW); (try go_split_ands); go_simp; (try (with_reducible rfl)); done))) | (refine Reg.take 2 (v := undef) rfl (by kernel_rfl) (by kernel_rfl) (by kernel_rfl) (fun _ _ _ h => h) (Or.inr ⟨by rfl, rfl⟩) (by assumption) ?_))
  (try simp only [Act.put, List.setIfInBounds_toArray, List.set_cons_zero, List.set_cons_succ])
  (first | (refine Reg.take 3 (v := ?_) rfl (by kernel_rfl) (by kernel_rfl) (by kernel_rfl) (fun _ _ _ h => h) (Or.inl ⟨by rfl, ?_⟩) (by assumption) ?_; rotate_left; (focus ((intro W hSW); (try dsimp only at hSW); (try go_split_ands); go_simp; (try (with_reducible rfl)); done))) | (refine Reg.take 3 (v := undef) rfl (by kernel_rfl) (by kernel_rfl) (by kernel_rfl) (fun _ _ _ h => h) (Or.inr ⟨by rfl, rfl⟩) (by assumption) ?_))
  (try simp only [Act.put, List.setIfInBounds_toArray, List.set_cons_zero, List.set_cons_succ])
  (first | (refine Reg.take 4 (v := ?_) rfl (by kernel_rfl) (by kernel_rfl) (by kernel_rfl) (fun _ _ _ h => h) (Or.inl ⟨by rfl, ?_⟩) (by assumption) ?_; rotate_left; (focus ((intro W hSW); (try dsimp only at hSW); (try go_split_ands); go_simp; (try (with_reducible rfl)); done))) | (refine Reg.take 4 (v := undef) rfl (by kernel_rfl) (by kernel_rfl) (by kernel_rfl) (fun _ _ _ h => h) (Or.inr ⟨by rfl, rfl⟩) (by assumption) ?_))
  (try simp only [Act.put, List.setIfInBounds_toArray, List.set_cons_zero, List.set_cons_succ])
  (first | (refine Reg.take 5 (v := ?_) rfl (by kernel_rfl) (by kernel_rfl) (by kernel_rfl) (fun _ _ _ h => h) (Or.inl ⟨by rfl, ?_⟩) (by assumption) ?_; rotate_left; (focus ((intro W hSW); (try dsimp only at hSW); (try go_split_ands); go_simp; (try (with_reducible rfl)); done))) | (refine Reg.take 5 (v := undef) rfl (by kernel_rfl) (by kernel_rfl) (by kernel_rfl) (fun _ _ _ h => h) (Or.inr ⟨by rfl, rfl⟩) (by assumption) ?_))
  (try simp only [Act.put, List.setIfInBounds_toArray, List.set_cons_zero, List.set_cons_succ])
  (first | (refine Reg.take 6 (v := ?_) rfl (by kernel_rfl) (by kernel_rfl) (by kernel_rfl) (fun _ _ _ h => h) (Or.inl ⟨by rfl, ?_⟩) (by assumption) ?_; rotate_left; (focus ((intro W hSW); (try dsimp only at hSW); (try go_split_ands); go_simp; (try (with_reducible rfl)); done))) | (refine Reg.take 6 (v := undef) rfl (by kernel_rfl) (by kernel_rfl) (by kernel_rfl) (fun _ _ _ h => h) (Or.inr ⟨by rfl, rfl⟩) (by assumption) ?_))
  (try simp only [Act.put, List.setIfInBounds_toArray, List.set_cons_zero, List.set_cons_succ])
  (first | (refine Reg.take 7 (v := ?_) rfl (by kernel_rfl) (by kernel_rfl) (by kernel_rfl) (fun _ _ _ h => h) (Or.inl ⟨by rfl, ?_⟩) (by assumption) ?_; rotate_left; (focus ((intro W hSW); (try dsimp only at hSW); (try go_split_ands); go_simp; (try (with_reducible rfl)); done))) | (refine Reg.take 7 (v := undef) rfl (by kernel_rfl) (by kernel_rfl) (by kernel_rfl) (fun _ _ _ h => h) (Or.inr ⟨by rfl, rfl⟩) (by assumption) ?_))
  (try simp only [Act.put, List.setIfInBounds_toArray, List.set_cons_zero, List.set_cons_succ])
  (first | (refine Reg.take 8 (v := ?_) rfl (by kernel_rfl) (by kernel_rfl) (by kernel_rfl) (fun _ _ _ h => h) (Or.inl ⟨by rfl, ?_⟩) (by assumption) ?_; rotate_left; (focus ((intro W hSW); (try dsimp only at hSW); (try go_split_ands); go_simp; (try (with_reducible rfl)); done))) | (refine Reg.take 8 (v := undef) rfl (by kernel_rfl) (by kernel_rfl) (by kernel_rfl) (fun _ _ _ h => h) (Or.inr ⟨by rfl, rfl⟩) (by assumption) ?_))
  (try simp only [Act.put, List.setIfInBounds_toArray, List.set_cons_zero, List.set_cons_succ])
  (first | (refine Reg.take 9 (v := ?_) rfl (by kernel_rfl) (by kernel_rfl) (by kernel_rfl) (fun _ _ _ h => h) (Or.inl ⟨by rfl, ?_⟩) (by assumption) ?_; rotate_left; (focus ((intro W hSW); (try dsimp only at hSW); (try go_split_ands); go_simp; (try (with_reducible rfl)); done))) | (refine Reg.take 9 (v := undef) rfl (by kernel_rfl) (by kernel_rfl) (by kernel_rfl) (fun _ _ _ h => h) (Or.inr ⟨by rfl, rfl⟩) (by assumption) ?_))
  (try simp only [Act.put, List.setIfInBounds_toArray, List.set_cons_zero, List.set_cons_succ])
  (first | (refine Reg.take 10 (v := ?_) rfl (by kernel_rfl) (by kernel_rfl) (by kernel_rfl) (fun _ _ _ h => h) (Or.inl ⟨by rfl, ?_⟩) (by assumption) ?_; rotate_left; (focus ((intro W hSW); (try dsimp only at hSW); (try go_split_ands); go_simp; (try (with_reducible rfl)); done))) | (refine Reg.take 10 (v := undef) rfl (by kernel_rfl) (by kernel_rfl) (by kernel_rfl) (fun _ _ _ h => h) (Or.inr ⟨by rfl, rfl⟩) (by assumption) ?_))
  (try simp only [Act.put, List.setIfInBounds_toArray, List.set_cons_zero, List.set_cons_succ])
  (first | (refine Reg.take 11 (v := ?_) rfl (by kernel_rfl) (by kernel_rfl) (by kernel_rfl) (fun _ _ _ h => h) (Or.inl ⟨by rfl, ?_⟩) (by assumption) ?_; rotate_left; (focus ((intro W hSW); (try dsimp only at hSW); (try go_split_ands); go_simp; (try (with_reducible rfl)); done))) | (refine Reg.take 11 (v := undef) rfl (by kernel_rfl) (by kernel_rfl) (by kernel_rfl) (fun _ _ _ h => h) (Or.inr ⟨by rfl, rfl⟩) (by assumption) ?_))
  (try simp only [Act.put, List.setIfInBounds_toArray, List.set_cons_zero, List.set_cons_succ])
  (first | (refine Reg.take 12 (v := ?_) rfl (by kernel_rfl) (by kernel_rfl) (by kernel_rfl) (fun _ _ _ h => h) (Or.inl ⟨by rfl, ?_⟩) (by assumption) ?_; rotate_left; (focus ((intro W hSW); (try dsimp only at hSW); (try go_split_ands); go_simp; (try (with_reducible rfl)); done))) | (refine Reg.take 12 (v := undef) rfl (by kernel_rfl) (by kernel_rfl) (by kernel_rfl) (fun _ _ _ h => h) (Or.inr ⟨by rfl, rfl⟩) (by assumption) ?_))
  (try simp only [Act.put, List.setIfInBounds_toArray, List.set_cons_zero, List.set_cons_succ])
  (first | (refine Reg.take 13 (v := ?_) rfl (by kernel_rfl) (by kernel_rfl) (by kernel_rfl) (fun _ _ _ h => h) (Or.inl ⟨by rfl, ?_⟩) (by assumption) ?_; rotate_left; (focus ((intro W hSW); (try dsimp only at hSW); (try go_split_ands); go_simp; (try (with_reducible rfl)); done))) | (refine Reg.take 13 (v := undef) rfl (by kernel_rfl) (by kernel_rfl) (by kernel_rfl) (fun _ _ _ h => h) (Or.inr ⟨by rfl, rfl⟩) (by assumption) ?_))
  (try simp only [Act.put, List.setIfInBounds_toArray, List.set_cons_zero, List.set_cons_succ])
  refine wpAnyH_done (by kernel_rfl) ?_ _
  clear hHeld
  obtain ⟨m0, m1, m2, m3⟩ := B5.out.cells
  obtain ⟨v, hv⟩ := HR.out.row.get (i := i) q6
  obtain ⟨xb, xo, hXA, -, c0, c1, c2⟩ := zone_cells (HR.out.below L5.out) hv (Below.refl _ w5)
  have HV := Lib.hid hv
  have B6 : Hid (DBox w5.drew w.heap.size d) := B5
  have L6 := Lib.hid L5.out.drew
  have Z6 : Hid (w5.drew.heap.size = w5.heap.size) := rfl
  have HXA := Lib.hid hXA
  rw [hXA] at m3
  clear hXA hv
  go_upto_region 5 with fail
  refine wp_region_held_drew (S := fun W => W.cell? ⟨w.heap.size, 3, none⟩ = some (.slice (some ⟨xb, xo, none⟩) d.n d.c) ∧ (W.cell? ⟨xb, xo + i * 3 + 1, none⟩ = some (.int .i64 v.z.fc) ∧ W.cell? ⟨xb, xo + i * 3 + 2, none⟩ = some (.slice v.D v.z.data.length v.c)))
    (by kernel_rfl) ⟨m3, c1, c2⟩ (fun hHeld => ?_)
  clear m0 m1 m2 m3 c0 c1 c2 L5 B5
  generalize w5.drew = w6 at *
  (first | (refine Reg.take 0 (v := ?_) rfl (by kernel_rfl) (by kernel_rfl) (by kernel_rfl) (fun _ _ _ h => h) (Or.inl ⟨by rfl, ?_⟩) (by assumption) ?_; rotate_left; (focus ((intro W hSW); (try dsimp only at hSW); (try go_split_ands); go_simp; (try (with_reducible rfl)); done))) | (refine Reg.take 0 (v := undef) rfl (by kernel_rfl) (by kernel_rfl) (by kernel_rfl) (fun _ _ _ h => h) (Or.inr ⟨by rfl, rfl⟩) (by assumption) ?_))
  (try simp only [Act.put, List.setIfInBounds_toArray, List.set_cons_zero, List.set_cons_succ])
  (first | (refine Reg.take 1 (v := ?_) rfl (by kernel_rfl) (by kernel_rfl) (by kernel_rfl) (fun _ _ _ h => h) (Or.inl ⟨by rfl, ?_⟩) (by assumption) ?_; rotate_left; (focus ((intro W hSW); (try dsimp only at hSW); (try go_split_ands); go_simp; (try (with_reducible rfl)); done))) | (refine Reg.take 1 (v := undef) rfl (by kernel_rfl) (by kernel_rfl) (by kernel_rfl) (fun _ _ _ h => h) (Or.inr ⟨by rfl, rfl⟩) (by assumption) ?_))
  (try simp only [Act.put, List.setIfInBounds_toArray, List.set_cons_zero, List.set_cons_succ])
  (first | (refine Reg.take 2 (v := ?_) rfl (by kernel_rfl) (by kernel_rfl) (by kernel_rfl) (fun _ _ _ h => h) (Or.inl ⟨by rfl, ?_⟩) (by assumption) ?_; rotate_left; (focus ((intro W hSW); (try dsimp only at hSW); (try go_split_ands); go_simp; (try (with_reducible rfl)); done))) | (refine Reg.take 2 (v := undef) rfl (by kernel_rfl) (by kernel_rfl) (by kernel_rfl) (fun _ _ _ h => h) (Or.inr ⟨by rfl, rfl⟩) (by assumption) ?_))
  (try simp only [Act.put, List.setIfInBounds_toArray, List.set_cons_zero, List.set_cons_succ])
  (first | (refine Reg.take 3 (v := ?_) rfl (by kernel_rfl) (by kernel_rfl) (by kernel_rfl) (fun _ _ _ h => h) (Or.inl ⟨by rfl, ?_⟩) (by assumption) ?_; rotate_left; (focus ((intro W hSW); (try dsimp only at hSW); (try go_split_ands); go_simp; (try (with_reducible rfl)); done))) | (refine Reg.take 3 (v := undef) rfl (by kernel_rfl) (by kernel_rfl) (by kernel_rfl) (fun _ _ _ h => h) (Or.inr ⟨by rfl, rfl⟩) (by assumption) ?_))
  (try simp only [Act.put, List.setIfInBounds_toArray, List.set_cons_zero, List.set_cons_succ])
  (first | (refine Reg.take 4 (v := ?_) rfl (by kernel_rfl) (by kernel_rfl) (by kernel_rfl) (fun _ _ _ h => h) (Or.inl ⟨by rfl, ?_⟩) (by assumption) ?_; rotate_left; (focus ((intro W hSW); (try dsimp only at hSW); (try go_split_ands); go_simp; (try (with_reducible rfl)); done))) | (refine Reg.take 4 (v := undef) rfl (by kernel_rfl) (by kernel_rfl) (by kernel_rfl) (fun _ _ _ h => h) (Or.inr ⟨by rfl, rfl⟩) (by assumption) ?_))
  (try simp only [Act.put, List.setIfInBounds_toArray, List.set_cons_zero, List.set_cons_succ])
  (first | (refine Reg.take 5 (v := ?_) rfl (by kernel_rfl) (by kernel_rfl) (by kernel_rfl) (fun _ _ _ h => h) (Or.inl ⟨by rfl, ?_⟩) (by assumption) ?_; rotate_left; (focus ((intro W hSW); (try dsimp only at hSW); (try go_split_ands); go_simp; (try (with_reducible rfl)); done))) | (refine Reg.take 5 (v := undef) rfl (by kernel_rfl) (by kernel_rfl) (by kernel_rfl) (fun _ _ _ h => h) (Or.inr ⟨by rfl, rfl⟩) (by assumption) ?_))
  (try simp only [Act.put, List.setIfInBounds_toArray, List.set_cons_zero, List.set_cons_succ])
  (first | (refine Reg.take 6 (v := ?_) rfl (by kernel_rfl) (by kernel_rfl) (by kernel_rfl) (fun _ _ _ h => h) (Or.inl ⟨by rfl, ?_⟩) (by assumption) ?_; rotate_left; (focus ((intro W hSW); (try dsimp only at hSW); (try go_split_ands); go_simp; (try (with_reducible rfl)); done))) | (refine Reg.take 6 (v := undef) rfl (by kernel_rfl) (by kernel_rfl) (by kernel_rfl) (fun _ _ _ h => h) (Or.inr ⟨by rfl, rfl⟩) (by assumption) ?_))
  (try simp only [Act.put, List.setIfInBounds_toArray, List.set_cons_zero, List.set_cons_succ])
  (first | (refine Reg.take 7 (v := ?_) rfl (by kernel_rfl) (by kernel_rfl) (by kernel_rfl) (fun _ _ _ h => h) (Or.inl ⟨by rfl, ?_⟩) (by assumption) ?_; rotate_left; (focus ((intro W hSW); (try dsimp only at hSW); (try go_split_ands); go_simp; (try (with_reducible rfl)); done))) | (refine Reg.take 7 (v := undef) rfl (by kernel_rfl) (by kernel_rfl) (by kernel_rfl) (fun _ _ _ h => h) (Or.inr ⟨by rfl, rfl⟩) (by assumption) ?_))
  (try simp only [Act.put, List.setIfInBounds_toArray, List.set_cons_zero, List.set_cons_succ])
  (first | (refine Reg.take 8 (v := ?_) rfl (by kernel_rfl) (by kernel_rfl) (by kernel_rfl) (fun _ _ _ h => h) (Or.inl ⟨by rfl, ?_⟩) (by assumption) ?_; rotate_left; (focus ((intro W hSW); (try dsimp only at hSW); (try go_split_ands); go_simp; (try (with_reducible rfl)); done))) | (refine Reg.take 8 (v := undef) rfl (by kernel_rfl) (by kernel_rfl) (by kernel_rfl) (fun _ _ _ h => h) (Or.inr ⟨by rfl, rfl⟩) (by assumption) ?_))
  (try simp only [Act.put, List.setIfInBounds_toArray, List.set_cons_zero, List.set_cons_succ])
  (first | (refine Reg.take 9 (v := ?_) rfl (by kernel_rfl) (by kernel_rfl) (by kernel_rfl) (fun _ _ _ h => h) (Or.inl ⟨by rfl, ?_⟩) (by assumption) ?_; rotate_left; (focus ((intro W hSW); (try dsimp only at hSW); (try go_split_ands); go_simp; (try (with_reducible rfl)); done))) | (refine Reg.take 9 (v := undef) rfl (by kernel_rfl) (by kernel_rfl) (by kernel_rfl) (fun _ _ _ h => h) (Or.inr ⟨by rfl, rfl⟩) (by assumption) ?_))
  (try simp only [Act.put, List.setIfInBounds_toArray, List.set_cons_zero, List.set_cons_succ])
  (first | (refine Reg.take 10 (v := ?_) rfl (by kernel_rfl) (by kernel_rfl) (by kernel_rfl) (fun _ _ _ h => h) (Or.inl ⟨by rfl, ?_⟩) (by assumption) ?_; rotate_left; (focus ((intro W hSW); (try dsimp only at hSW); (try go_split_ands); go_simp; (try (with_reducible rfl)); done))) | (refine Reg.take 10 (v := undef) rfl (by kernel_rfl) (by kernel_rfl) (by kernel_rfl) (fun _ _ _ h => h) (Or.inr ⟨by rfl, rfl⟩) (by assumption) ?_))
  (try simp only [Act.put, List.setIfInBounds_toArray, List.set_cons_zero, List.set_cons_succ])
  (first | (refine Reg.take 11 (v := ?_) rfl (by kernel_rfl) (by kernel_rfl) (by kernel_rfl) (fun _ _ _ h => h) (Or.inl ⟨by rfl, ?_⟩) (by assumption) ?_; rotate_left; (focus ((intro W hSW); (try dsimp only at hSW); (try go_split_ands); go_simp; (try (with_reducible rfl)); done))) | (refine Reg.take 11 (v := undef) rfl (by kernel_rfl) (by kernel_rfl) (by kernel_rfl) (fun _ _ _ h => h) (Or.inr ⟨by rfl, rfl⟩) (by assumption) ?_))
  (try simp only [Act.put, List.setIfInBounds_toArray, List.set_cons_zero, List.set_cons_succ])
  (first | (refine Reg.take 12 (v := ?_) rfl (by kernel_rfl) (by kernel_rfl) (by kernel_rfl) (fun _ _ _ h => h) (Or.inl ⟨by rfl, ?_⟩) (by assumption) ?_; rotate_left; (focus ((intro W hSW); (try dsimp only at hSW); (try go_split_ands); go_simp; (try (with_reducible rfl)); done))) | (refine Reg.take 12 (v := undef) rfl (by kernel_rfl) (by kernel_rfl) (by kernel_rfl) (fun _ _ _ h => h) (Or.inr ⟨by rfl, rfl⟩) (by assumption) ?_))
  (try simp only [Act.put, List.setIfInBounds_toArray, List.set_cons_zero, List.set_cons_succ])
  (first | (refine Reg.take 13 (v := ?_) rfl (by kernel_rfl) (by kernel_rfl) (by kernel_rfl) (fun _ _ _ h => h) (Or.inl ⟨by rfl, ?_⟩) (by assumption) ?_; rotate_left; (focus ((intro W hSW); (try dsimp only at hSW); (try go_split_ands); go_simp; (try (with_reducible rfl)); done))) | (refine Reg.take 13 (v := undef) rfl (by kernel_rfl) (by kernel_rfl) (by kernel_rfl) (fun _ _ _ h => h) (Or.inr ⟨by rfl, rfl⟩) (by assumption) ?_))
  (try simp only [Act.put, List.setIfInBounds_toArray, List.set_cons_zero, List.set_cons_succ])
  (first | (refine Reg.take 14 (v := ?_) rfl (by kernel_rfl) (by kernel_rfl) (by kernel_rfl) (fun _ _ _ h => h) (Or.inl ⟨by rfl, ?_⟩) (by assumption) ?_; rotate_left; (focus ((intro W hSW); (try dsimp only at hSW); (try go_split_ands); go_simp; (try (with_reducible rfl)); done))) | (refine Reg.take 14 (v := undef) rfl (by kernel_rfl) (by kernel_rfl) (by kernel_rfl) (fun _ _ _ h => h) (Or.inr ⟨by rfl, rfl⟩) (by assumption) ?_))
  (try simp only [Act.put, List.setIfInBounds_toArray, List.set_cons_zero, List.set_cons_succ])
  have hcell : ∀ W : World, DBox W w.heap.size d → DevAt W d → W.cell? ⟨w.heap.size, 3, none⟩ = some (.slice (some ⟨xb, xo, none⟩) d.n d.c) ∧ (W.cell? ⟨xb, xo + i * 3 + 1, none⟩ = some (.int .i64 v.z.fc) ∧ W.cell? ⟨xb, xo + i * 3 + 2, none⟩ = some (.slice v.D v.z.data.length v.c)) := by
    intro W h1 h2
    obtain ⟨b1, o1, e1, -, r0, r1, r2⟩ := zone_cells h2 HV.out (Below.refl _ W)
    rw [HXA.out] at e1
    injection e1 with e1
    injection e1 with e1 e1'
    subst e1 e1'
    have n3 := h1.cells.2.2.2
    rw [HXA.out] at n3
    exact ⟨n3, r1, r2⟩
  have D6 := Lib.hid (HR.out.below L6.out)
  refine Reg.step 15 rfl (by kernel_rfl) (by rfl) (fun K hK => ?_)
  go_simp
  have b7 : Below w6.heap.size w6 (w6.alloc (.cells #[.int .i64 0, .int .i64 0, .int .i64 0, .int .i64 0, .int .i64 0, .slice none 0 0] 36)) := (Below.refl _ w6).alloc (Nat.le_refl _) _
  refine hK.out _ _ (hcell _ (B6.out.below b7) (D6.out.below b7)) (fun hHeld2 => ?_)
  clear hK K b7
  (try simp only [Act.put, List.setIfInBounds_toArray, List.set_cons_zero, List.set_cons_succ])
  refine Reg.step 16 rfl (by kernel_rfl) (by rfl) (fun K hK => ?_)
  go_simp
  have b8 : Below w6.heap.size w6 (w6.alloc (.cells #[.int .i64 2, .int .i64 (i : Int), .int .i64 v.z.fc, .int .i64 0, .int .i64 v.z.data.length, .slice none 0 0] 36)) := (Below.refl _ w6).alloc (Nat.le_refl _) _
  have B8 := Lib.hid (B6.out.below b8)
  have D8 := Lib.hid (D6.out.below b8)
  have L8 := Lib.hid (L6.out.trans (b8.mono L6.out.size))
  have R8 : Hid (CBox (w6.alloc (.cells #[.int .i64 2, .int .i64 (i : Int), .int .i64 v.z.fc, .int .i64 0, .int .i64 v.z.data.length, .slice none 0 0] 36)) w6.heap.size 2 i v.z.fc 0 v.z.data.length none 0 0) := Cells.new w6 _ _
  have O1 : Hid (w.heap.size < w6.heap.size) := B6.out.lt
  refine hK.out _ _ (hcell _ B8.out D8.out) (fun hHeld3 => ?_)
  clear hK K b8
  (try simp only [Act.put, List.setIfInBounds_toArray, List.set_cons_zero, List.set_cons_succ])
  refine wpAnyH_done (by kernel_rfl) ?_ _
  clear hHeld hHeld2 hHeld3 hcell B6 D6 L6 Z6
  generalize w6.alloc (.cells #[.int .i64 2, .int .i64 (i : Int), .int .i64 v.z.fc, .int .i64 0, .int .i64 v.z.data.length, .slice none 0 0] 36) = w8 at *
  generalize w6.heap.size = gr at *
  obtain ⟨m0, m1, m2, m3⟩ := B8.out.cells
  obtain ⟨y0, y1, y2, y3, y4, y5⟩ := CBox.cells R8.out
  have HAT : Hid (At d i v.z.fc v.z.data) := ⟨v, HV.out, rfl, rfl⟩
  have HDR := HDo d ⟨rdC i v.z.fc v.z.data, none, 0⟩ w8 D8.out (by omega) ⟨Row.nil cb w8, by show (0 : Int) ≤ _; decide⟩ HOK.out
  unfold rdC at HDR
  dsimp only [List.length_nil] at HDR
  go_wp2_with fail
  refine HDR.out.mono ?_
  rintro e w9 ⟨Y, ⟨pp, B, k⟩, rfl, -, hdp, -, hY2, -, hb, -⟩
  obtain rfl : pp = ⟨0, 0, v.z.data⟩ := hY2.trans (read_at HOK.out HAT.out)
  clear hY2 HDR
  have b9 : Below w9.heap.size w9 ((w9.alloc (.cells #[.int .i64 Y.cap, .int .i64 Y.op, .int .i64 Y.ac, .slice Y.A Y.n Y.c] 25)).alloc (.cells #[.int .i64 0, .int .i64 0, .slice B v.z.data.length k] 38)) := ((Below.refl w9.heap.size w9).alloc (Nat.le_refl _) _).alloc (by simp) _
  have P9 : Hid (EBox ((w9.alloc (.cells #[.int .i64 Y.cap, .int .i64 Y.op, .int .i64 Y.ac, .slice Y.A Y.n Y.c] 25)).alloc (.cells #[.int .i64 0, .int .i64 0, .slice B v.z.data.length k] 38)) (w9.heap.size + 1) 0 0 B v.z.data.length k) := heap_alloc2_new w9 _ _
  have PD9 : Hid (Row cb ((w9.alloc (.cells #[.int .i64 Y.cap, .int .i64 Y.op, .int .i64 Y.ac, .slice Y.A Y.n Y.c] 25)).alloc (.cells #[.int .i64 0, .int .i64 0, .slice B v.z.data.length k] 38)) B v.z.data.length k v.z.data) := Row.below hdp b9
  have B9 := Lib.hid ((B8.out.below hb).below b9)
  have D9 := Lib.hid ((D8.out.below hb).below b9)
  have L9 := Lib.hid ((L8.out.trans (hb.mono L8.out.size)).trans (b9.mono ((L8.out.trans (hb.mono L8.out.size)).size)))
  have R9 := Lib.hid (CBox.below (CBox.below R8.out hb) b9)
  have O2 : Hid (gr < w9.heap.size + 1) := by
    have h1 := Cells.lt (CBox.below R8.out hb)
    show gr < w9.heap.size + 1
    omega
  clear hdp hb b9 m0 m1 m2 m3 y0 y1 y2 y3 y4 y5 B8 D8 L8 R8
  go_upto_region 7 with fail
  generalize (w9.alloc (.cells #[.int .i64 Y.cap, .int .i64 Y.op, .int .i64 Y.ac, .slice Y.A Y.n Y.c] 25)).alloc (.cells #[.int .i64 0, .int .i64 0, .slice B v.z.data.length k] 38) = w10 at *
  generalize w9.heap.size + 1 = gp at *
  obtain ⟨m0, m1, m2, m3⟩ := B9.out.cells
  have X11 : Hid (XI w w10.heap.size d (w10.alloc (.cells #[.int .i64 d.cap, .int .i64 d.op, .int .i64 d.ac, .slice d.A d.n d.c] 25))) := XI.start L9.out HR.out HOK.out (by omega)
  have b11 : Below w10.heap.size w10 (w10.alloc (.cells #[.int .i64 d.cap, .int .i64 d.op, .int .i64 d.ac, .slice d.A d.n d.c] 25)) := (Below.refl _ w10).alloc (Nat.le_refl _) _
  have B11 := Lib.hid (B9.out.below b11)
  have D11 := Lib.hid (D9.out.below b11)
  have R11 := Lib.hid (CBox.below R9.out b11)
  have P11 := Lib.hid (EBox.below P9.out b11)
  have PD11 := Lib.hid (PD9.out.below b11)
  have O3 : Hid (gp < w10.heap.size) := EBox.lt P9.out
  clear b11 B9 D9 L9 R9 P9 PD9
  go_upto_region 8 with fail
  clear m0 m1 m2 m3
  generalize w10.alloc (.cells #[.int .i64 d.cap, .int .i64 d.op, .int .i64 d.ac, .slice d.A d.n d.c] 25) = w11 at *
  generalize w10.heap.size = gx at *
  obtain ⟨m0, m1, m2, m3⟩ := B11.out.cells
  go_wp2_with fail
  refine (HCp d w11 D11.out (by omega)).out.mono ?_
  rintro e w12 ⟨Z, rfl, hZ, hZp, hZn, hb, hZa⟩
  have Y13 : Hid (XI w w12.heap.size Z (w12.alloc (.cells #[.int .i64 Z.cap, .int .i64 Z.op, .int .i64 Z.ac, .slice Z.A Z.n Z.c] 25))) := XI.start2 (X11.out.below.trans (hb.mono X11.out.below.size)) hZ (by rw [hZp]; exact HOK.out) (by rw [hZn]; omega)
  have b13 : Below w12.heap.size w12 (w12.alloc (.cells #[.int .i64 Z.cap, .int .i64 Z.op, .int .i64 Z.ac, .slice Z.A Z.n Z.c] 25)) := (Below.refl _ w12).alloc (Nat.le_refl _) _
  have I13 : Hid (PI w d w.heap.size gr gp gx w12.heap.size i v.z.fc v.z.data B k d Z (w12.alloc (.cells #[.int .i64 Z.cap, .int .i64 Z.op, .int .i64 Z.ac, .slice Z.A Z.n Z.c] 25))) :=
    ⟨(X11.out.to hb).to b13, Y13.out, hZp.symm, HAT.out, rfl, fun q o e h0 => by
      obtain ⟨b1, o1, e1, hbl, -⟩ := HR.out.row.at_ h0
      rw [e] at e1
      injection e1 with e1
      injection e1 with e1
      have := (X11.out.below.trans (hb.mono X11.out.below.size)).size
      omega, fun q o e _ => by have := hZa q o e; have := X11.out.box.lt; omega,
      EBox.below (EBox.below P11.out hb) b13, (PD11.out.below hb).below b13, CBox.below (CBox.below R11.out hb) b13, (B11.out.below hb).below b13, O1.out, O2.out, O3.out, by have := X11.out.box.lt; have := hb.size; omega⟩
  clear hZ hZp hZn hb hZa b13 Y13 X11 B11 D11 R11 P11 PD11 m0 m1 m2 m3
  go_upto_region 9 with fail
  generalize w12.alloc (.cells #[.int .i64 Z.cap, .int .i64 Z.op, .int .i64 Z.ac, .slice Z.A Z.n Z.c] 25) = w13 at *
  generalize w12.heap.size = gy at *
  go_wp2_with fail
  go_loopw [71] (fun c wr => ∃ (j : Nat) (X Y : Dx), c = .int .i64 j ∧ j ≤ m ∧ Hid (PI w d w.heap.size gr gp gx gy i v.z.fc v.z.data B k X Y wr)) (fun c _ => m - (intOf c).toNat)
  case atStart => exact ⟨0, d, Z, rfl, by omega, I13.out⟩
  case round =>
    obtain ⟨j, X, Y, rfl, hj, hI⟩ := hrel
    by_cases hlt : j < m
    · clear I13
      obtain ⟨x, hx⟩ := HL.out.get hlt
      obtain ⟨b, oo, rfl, c0, c1, c2, c3, c4, c5⟩ := cmd_cells HL.out hx hI.out.below
      have HXC := Lib.hid (HCS.out x (List.mem_of_getElem? hx))
      have hk0 : (0 : Int) ≤ (j : Int) := by omega
      have hk1 : (j : Int) < (m : Int) := by omega
      have b6 : Below wr.heap.size wr (wr.alloc (.cells #[.int .i64 x.c.d, .int .i64 x.c.zone, .int .i64 x.c.epoch, .int .i64 x.c.off, .int .i64 x.c.n, .slice x.B x.c.b.length x.k] 36)) := (Below.refl _ wr).alloc (Nat.le_refl _) _
      have I6 := Lib.hid (hI.out.to b6)
      have C6 : Hid (CBox (wr.alloc (.cells #[.int .i64 x.c.d, .int .i64 x.c.zone, .int .i64 x.c.epoch, .int .i64 x.c.off, .int .i64 x.c.n, .slice x.B x.c.b.length x.k] 36)) wr.heap.size x.c.d x.c.zone x.c.epoch x.c.off x.c.n x.B x.c.b.length x.k) := Cells.new wr _ _
      clear hx b6 hI
      go_upto_region 12 with fail
      clear c0 c1 c2 c3 c4 c5
      generalize wr.alloc (.cells #[.int .i64 x.c.d, .int .i64 x.c.zone, .int .i64 x.c.epoch, .int .i64 x.c.off, .int .i64 x.c.n, .slice x.B x.c.b.length x.k] 36) = w14 at *
      generalize wr.heap.size = gc at *
      obtain ⟨y0, y1, y2, y3, y4, y5⟩ := CBox.cells C6.out
      obtain ⟨m0, m1, m2, m3⟩ := I6.out.x.box.cells
      rcases hz : (x.c.zone == (i : Int))
      · have HZ := Lib.hid (beq_eq_false_iff_ne.1 hz)
        go_wp2_with fail
        refine (HDo X x w14 I6.out.x.dev I6.out.x.small (HXC.out.below I6.out.below) I6.out.x.ok).out.mono ?_
        rintro e w15 ⟨P, p, rfl, hdP, hdp, hP1, hP2, hPn, hb, hPa⟩
        have SP := Lib.hid (st_of I6.out.x.ok hP1 hP2)
        have PN := Lib.hid hPn
        have PA : Hid (∀ q o, P.A = some ⟨q, o, none⟩ → gy < q) := by
          show ∀ _, _
          intro q o e
          have h1 := hPa q o e
          have h2 := I6.out.y.box.lt
          omega
        have HPX := Lib.hid (And.intro hP1 hP2)
        have b8 : Below w15.heap.size w15 ((w15.alloc (.cells #[.int .i64 P.cap, .int .i64 P.op, .int .i64 P.ac, .slice P.A P.n P.c] 25)).alloc (.cells #[.int .i64 p.p.e, .int .i64 p.p.at_, .slice p.B p.p.b.length p.k] 38)) := ((Below.refl w15.heap.size w15).alloc (Nat.le_refl _) _).alloc (by simp) _
        have I8 := Lib.hid ((I6.out.to hb).to b8)
        have C8 := Lib.hid (CBox.below (CBox.below C6.out hb) b8)
        have P8 : Hid (DBox ((w15.alloc (.cells #[.int .i64 P.cap, .int .i64 P.op, .int .i64 P.ac, .slice P.A P.n P.c] 25)).alloc (.cells #[.int .i64 p.p.e, .int .i64 p.p.at_, .slice p.B p.p.b.length p.k] 38)) w15.heap.size P) := heap_alloc2_old w15 _ _
        have E8 : Hid (EBox ((w15.alloc (.cells #[.int .i64 P.cap, .int .i64 P.op, .int .i64 P.ac, .slice P.A P.n P.c] 25)).alloc (.cells #[.int .i64 p.p.e, .int .i64 p.p.at_, .slice p.B p.p.b.length p.k] 38)) (w15.heap.size + 1) p.p.e p.p.at_ p.B p.p.b.length p.k) := heap_alloc2_new w15 _ _
        have DP8 := Lib.hid (hdP.below b8)
        have DE8 := Lib.hid (hdp.below b8)
        clear hdP hdp hP1 hP2 hPn hb hPa b8 m0 m1 m2 m3 y0 y1 y2 y3 y4 y5 I6 C6
        go_upto_region 14 with fail
        generalize (w15.alloc (.cells #[.int .i64 P.cap, .int .i64 P.op, .int .i64 P.ac, .slice P.A P.n P.c] 25)).alloc (.cells #[.int .i64 p.p.e, .int .i64 p.p.at_, .slice p.B p.p.b.length p.k] 38) = w16 at *
        generalize w15.heap.size + 1 = ga at *
        generalize w15.heap.size = ge at *
        obtain ⟨y0, y1, y2, y3, y4, y5⟩ := CBox.cells C8.out
        obtain ⟨m0, m1, m2, m3⟩ := I8.out.y.box.cells
        go_wp2_with fail
        refine (HDo Y x w16 I8.out.y.dev I8.out.y.small (HXC.out.below I8.out.below) I8.out.y.ok).out.mono ?_
        rintro e w17 ⟨Q, q, rfl, hdQ, hdq, hQ1, hQ2, hQn, hb, hQa⟩
        have SQ := Lib.hid (st_of I8.out.y.ok hQ1 hQ2)
        have QN := Lib.hid hQn
        have QA : Hid (∀ q o, Q.A = some ⟨q, o, none⟩ → gy < q) := by
          show ∀ _, _
          intro q o e
          have h1 := hQa q o e
          have h2 := I8.out.y.box.lt
          omega
        have HLT : Hid (gy < w17.heap.size) := by have h1 := I8.out.y.box.lt; have h2 := hb.size; show gy < w17.heap.size; omega
        have HPQ : Hid (P.p = Q.p ∧ p.p = q.p) := by
          refine ⟨?_, ?_⟩
          · rw [hQ1, ← I8.out.eq]; exact HPX.out.1
          · rw [hQ2, ← I8.out.eq]; exact HPX.out.2
        have b9 : Below w17.heap.size w17 ((w17.alloc (.cells #[.int .i64 Q.cap, .int .i64 Q.op, .int .i64 Q.ac, .slice Q.A Q.n Q.c] 25)).alloc (.cells #[.int .i64 q.p.e, .int .i64 q.p.at_, .slice q.B q.p.b.length q.k] 38)) := ((Below.refl w17.heap.size w17).alloc (Nat.le_refl _) _).alloc (by simp) _
        have I9 := Lib.hid ((I8.out.to hb).to b9)
        have P9 := Lib.hid ((P8.out.below hb).below b9)
        have E9 := Lib.hid (EBox.below (EBox.below E8.out hb) b9)
        have DP9 := Lib.hid ((DP8.out.below hb).below b9)
        have DE9 := Lib.hid ((DE8.out.below hb).below b9)
        have Q9 : Hid (DBox ((w17.alloc (.cells #[.int .i64 Q.cap, .int .i64 Q.op, .int .i64 Q.ac, .slice Q.A Q.n Q.c] 25)).alloc (.cells #[.int .i64 q.p.e, .int .i64 q.p.at_, .slice q.B q.p.b.length q.k] 38)) w17.heap.size Q) := heap_alloc2_old w17 _ _
        have G9 : Hid (EBox ((w17.alloc (.cells #[.int .i64 Q.cap, .int .i64 Q.op, .int .i64 Q.ac, .slice Q.A Q.n Q.c] 25)).alloc (.cells #[.int .i64 q.p.e, .int .i64 q.p.at_, .slice q.B q.p.b.length q.k] 38)) (w17.heap.size + 1) q.p.e q.p.at_ q.B q.p.b.length q.k) := heap_alloc2_new w17 _ _
        have DQ9 := Lib.hid (hdQ.below b9)
        have DG9 := Lib.hid (hdq.below b9)
        clear hdQ hdq hQ1 hQ2 hQn hb hQa b9 m0 m1 m2 m3 y0 y1 y2 y3 y4 y5 I8 C8 P8 E8 DP8 DE8 HPX
        go_upto_region 15 with fail
        generalize (w17.alloc (.cells #[.int .i64 Q.cap, .int .i64 Q.op, .int .i64 Q.ac, .slice Q.A Q.n Q.c] 25)).alloc (.cells #[.int .i64 q.p.e, .int .i64 q.p.at_, .slice q.B q.p.b.length q.k] 38) = w18 at *
        generalize w17.heap.size + 1 = gb at *
        generalize w17.heap.size = gf at *
        obtain ⟨p0, p1, p2⟩ := E9.out.cells
        obtain ⟨k0, k1, k2⟩ := G9.out.cells
        go_wp2_with fail
        refine (HSD p q w18 DE9.out DG9.out HPQ.out.2).out.mono ?_
        rintro e w19 ⟨rfl, hb⟩
        have IA := Lib.hid (I9.out.to hb)
        have PA_ := Lib.hid (P9.out.below hb)
        have QA_ := Lib.hid (Q9.out.below hb)
        have DPA := Lib.hid (DP9.out.below hb)
        have DQA := Lib.hid (DQ9.out.below hb)
        clear hb p0 p1 p2 k0 k1 k2 I9 P9 E9 DP9 DE9 Q9 G9 DQ9 DG9
        obtain ⟨y0, y1, y2, y3⟩ := PA_.out.cells
        obtain ⟨k0, k1, k2, k3⟩ := QA_.out.cells
        go_wp2_with fail
        refine (HSm P Q w19 DPA.out DQA.out HPQ.out.1).out.mono ?_
        rintro e w20 ⟨rfl, hb⟩
        have IB := Lib.hid (IA.out.to hb)
        have PB := Lib.hid (PA_.out.below hb)
        have QB := Lib.hid (QA_.out.below hb)
        have DPB := Lib.hid (DPA.out.below hb)
        have DQB := Lib.hid (DQA.out.below hb)
        clear hb y0 y1 y2 y3 k0 k1 k2 k3 IA PA_ QA_ DPA DQA
        have IN := Lib.hid (IB.out.next DPB.out DQB.out SP.out.ok SQ.out.ok HPQ.out.1 (SP.out.at_ IB.out.x.ok (by rw [DPB.out.row.len, IB.out.x.dev.row.len]; exact PN.out) (fun h => HZ.out h.symm) IB.out.at_) PN.out QN.out PA.out QA.out)
        obtain ⟨y0, y1, y2, y3⟩ := PB.out.cells
        obtain ⟨f0, f1, f2, f3⟩ := IB.out.x.box.frozen
        have HB1 := But.set4 w20 gx (.int .i64 P.cap) (.int .i64 P.op) (.int .i64 P.ac) (.slice P.A P.n P.c)
        have YB1 := Lib.hid (Cells.but IB.out.y.box HB1 (by have := IB.out.o4; omega))
        have QB1 := Lib.hid (Cells.but QB.out HB1 (by have := IB.out.o4; have := HLT.out; omega))
        clear HB1
        obtain ⟨m0, m1, m2, m3⟩ := IB.out.x.box.cells
        go_upto_region 18 with fail
        clear y0 y1 y2 y3 f0 f1 f2 f3 m0 m1 m2 m3
        obtain ⟨k0, k1, k2, k3⟩ := DBox.cells QB1.out
        obtain ⟨n0, n1, n2, n3⟩ := DBox.cells YB1.out
        obtain ⟨g0, g1, g2, g3⟩ := DBox.frozen YB1.out
        go_wp2_with fail
        go_roundw
        case rel => exact ⟨j + 1, P, Q, by go_num, by omega, IN.out⟩
        case measure => simp [intOf]; omega
      · go_wp2_with fail
        go_roundw
        case rel => exact ⟨j + 1, X, Y, by go_num, by omega, I6.out⟩
        case measure => simp [intOf]; omega
    · obtain ⟨m0, m1, m2, m3⟩ := hI.out.x.box.cells
      obtain ⟨y0, y1, y2, y3, y4, y5⟩ := CBox.cells hI.out.r
      have IE := Lib.hid hI.out
      clear I13 hI
      have HDR := HDo X ⟨rdC i v.z.fc v.z.data, none, 0⟩ wr IE.out.x.dev IE.out.x.small ⟨Row.nil cb wr, by show (0 : Int) ≤ _; decide⟩ IE.out.x.ok
      unfold rdC at HDR
      dsimp only [List.length_nil] at HDR
      go_wp2_with fail
      refine HDR.out.mono ?_
      rintro e w15 ⟨P, ⟨pp, B2, k2⟩, rfl, -, hdp, -, hY2, -, hb, -⟩
      obtain rfl : pp = ⟨0, 0, v.z.data⟩ := hY2.trans (read_at IE.out.x.ok IE.out.at_)
      clear hY2 HDR
      have b9 : Below w15.heap.size w15 ((w15.alloc (.cells #[.int .i64 P.cap, .int .i64 P.op, .int .i64 P.ac, .slice P.A P.n P.c] 25)).alloc (.cells #[.int .i64 0, .int .i64 0, .slice B2 v.z.data.length k2] 38)) := ((Below.refl w15.heap.size w15).alloc (Nat.le_refl _) _).alloc (by simp) _
      have I9 := Lib.hid ((IE.out.to hb).to b9)
      have E9 : Hid (EBox ((w15.alloc (.cells #[.int .i64 P.cap, .int .i64 P.op, .int .i64 P.ac, .slice P.A P.n P.c] 25)).alloc (.cells #[.int .i64 0, .int .i64 0, .slice B2 v.z.data.length k2] 38)) (w15.heap.size + 1) 0 0 B2 v.z.data.length k2) := heap_alloc2_new w15 _ _
      have DE9 : Hid (Row cb ((w15.alloc (.cells #[.int .i64 P.cap, .int .i64 P.op, .int .i64 P.ac, .slice P.A P.n P.c] 25)).alloc (.cells #[.int .i64 0, .int .i64 0, .slice B2 v.z.data.length k2] 38)) B2 v.z.data.length k2 v.z.data) := Row.below hdp b9
      clear hdp hb b9 m0 m1 m2 m3 y0 y1 y2 y3 y4 y5 IE
      go_upto_region 21 with fail
      generalize (w15.alloc (.cells #[.int .i64 P.cap, .int .i64 P.op, .int .i64 P.ac, .slice P.A P.n P.c] 25)).alloc (.cells #[.int .i64 0, .int .i64 0, .slice B2 v.z.data.length k2] 38) = w16 at *
      generalize w15.heap.size + 1 = ge at *
      obtain ⟨xv, hxv, hfc, -⟩ := I9.out.at_
      obtain ⟨xb1, xo1, hXA1, -, -, -, -⟩ := zone_cells I9.out.x.dev hxv (Below.refl _ w16)
      have hi2 : (i : Int) < (X.n : Int) := by rw [I9.out.n]; omega
      have hcell : ∀ W : World, PI w d w.heap.size gr gp gx gy i v.z.fc v.z.data B k X Y W → EBox W ge 0 0 B2 v.z.data.length k2 → DevAt W d → (W.cell? ⟨gp, 0, none⟩ = some (.int .i64 0) ∧ W.cell? ⟨gp, 1, none⟩ = some (.int .i64 0) ∧ W.cell? ⟨gp, 2, none⟩ = some (.slice B v.z.data.length k)) ∧ (W.cell? ⟨ge, 0, none⟩ = some (.int .i64 0) ∧ W.cell? ⟨ge, 1, none⟩ = some (.int .i64 0) ∧ W.cell? ⟨ge, 2, none⟩ = some (.slice B2 v.z.data.length k2)) ∧ (W.cell? ⟨gx, 3, none⟩ = some (.slice (some ⟨xb1, xo1, none⟩) X.n X.c) ∧ W.cell? ⟨w.heap.size, 3, none⟩ = some (.slice (some ⟨xb, xo, none⟩) d.n d.c)) ∧ (W.cell? ⟨xb1, xo1 + i * 3 + 1, none⟩ = some (.int .i64 v.z.fc) ∧ W.cell? ⟨xb, xo + i * 3 + 1, none⟩ = some (.int .i64 v.z.fc)) := by
        intro W h1 h2 h3
        obtain ⟨b1, o1, e1, -, -, r1, -⟩ := zone_cells h1.x.dev hxv (Below.refl _ W)
        obtain ⟨b2, o2, e2, -, -, s1, -⟩ := zone_cells h3 HV.out (Below.refl _ W)
        rw [hXA1] at e1
        rw [HXA.out] at e2
        injection e1 with e1
        injection e1 with e1 e1'
        injection e2 with e2
        injection e2 with e2 e2'
        subst e1 e1' e2 e2'
        have n3 := h1.x.box.cells.2.2.2
        have q3 := h1.d.cells.2.2.2
        rw [hXA1] at n3
        rw [HXA.out] at q3
        rw [hfc] at r1
        exact ⟨h1.p.cells, h2.cells, ⟨n3, q3⟩, ⟨r1, s1⟩⟩
      clear hxv hXA1 hfc
      have I0 : Hid (PI w d w.heap.size gr gp gx gy i v.z.fc v.z.data B k X Y w16.drew) := I9.out.to (Below.refl _ w16).drew
      have E0 : Hid (EBox w16.drew ge 0 0 B2 v.z.data.length k2) := E9
      have DE0 := Lib.hid DE9.out.drew
      have D0 := Lib.hid (HR.out.below I0.out.below)
      clear I9 E9 DE9
      refine wp_region_held_drew (S := fun W => (W.cell? ⟨gp, 0, none⟩ = some (.int .i64 0) ∧ W.cell? ⟨gp, 1, none⟩ = some (.int .i64 0) ∧ W.cell? ⟨gp, 2, none⟩ = some (.slice B v.z.data.length k)) ∧ (W.cell? ⟨ge, 0, none⟩ = some (.int .i64 0) ∧ W.cell? ⟨ge, 1, none⟩ = some (.int .i64 0) ∧ W.cell? ⟨ge, 2, none⟩ = some (.slice B2 v.z.data.length k2)) ∧ (W.cell? ⟨gx, 3, none⟩ = some (.slice (some ⟨xb1, xo1, none⟩) X.n X.c) ∧ W.cell? ⟨w.heap.size, 3, none⟩ = some (.slice (some ⟨xb, xo, none⟩) d.n d.c)) ∧ (W.cell? ⟨xb1, xo1 + i * 3 + 1, none⟩ = some (.int .i64 v.z.fc) ∧ W.cell? ⟨xb, xo + i * 3 + 1, none⟩ = some (.int .i64 v.z.fc)))
        (by kernel_rfl) (hcell _ I0.out E0.out D0.out) (fun hHeld => ?_)
      generalize w16.drew = w17 at *
      (first | (refine Reg.take 0 (v := ?_) rfl (by kernel_rfl) (by kernel_rfl) (by kernel_rfl) (fun _ _ _ h => h) (Or.inl ⟨by rfl, ?_⟩) (by assumption) ?_; rotate_left; (focus ((intro W hSW); (try dsimp only at hSW); (try go_split_ands); go_simp; (try (with_reducible rfl)); done))) | (refine Reg.take 0 (v := undef) rfl (by kernel_rfl) (by kernel_rfl) (by kernel_rfl) (fun _ _ _ h => h) (Or.inr ⟨by rfl, rfl⟩) (by assumption) ?_))
      (try simp only [Act.put, List.setIfInBounds_toArray, List.set_cons_zero, List.set_cons_succ])
      (first | (refine Reg.take 1 (v := ?_) rfl (by kernel_rfl) (by kernel_rfl) (by kernel_rfl) (fun _ _ _ h => h) (Or.inl ⟨by rfl, ?_⟩) (by assumption) ?_; rotate_left; (focus ((intro W hSW); (try dsimp only at hSW); (try go_split_ands); go_simp; (try (with_reducible rfl)); done))) | (refine Reg.take 1 (v := undef) rfl (by kernel_rfl) (by kernel_rfl) (by kernel_rfl) (fun _ _ _ h => h) (Or.inr ⟨by rfl, rfl⟩) (by assumption) ?_))
      (try simp only [Act.put, List.setIfInBounds_toArray, List.set_cons_zero, List.set_cons_succ])
      (first | (refine Reg.take 2 (v := ?_) rfl (by kernel_rfl) (by kernel_rfl) (by kernel_rfl) (fun _ _ _ h => h) (Or.inl ⟨by rfl, ?_⟩) (by assumption) ?_; rotate_left; (focus ((intro W hSW); (try dsimp only at hSW); (try go_split_ands); go_simp; (try (with_reducible rfl)); done))) | (refine Reg.take 2 (v := undef) rfl (by kernel_rfl) (by kernel_rfl) (by kernel_rfl) (fun _ _ _ h => h) (Or.inr ⟨by rfl, rfl⟩) (by assumption) ?_))
      (try simp only [Act.put, List.setIfInBounds_toArray, List.set_cons_zero, List.set_cons_succ])
      (first | (refine Reg.take 3 (v := ?_) rfl (by kernel_rfl) (by kernel_rfl) (by kernel_rfl) (fun _ _ _ h => h) (Or.inl ⟨by rfl, ?_⟩) (by assumption) ?_; rotate_left; (focus ((intro W hSW); (try dsimp only at hSW); (try go_split_ands); go_simp; (try (with_reducible rfl)); done))) | (refine Reg.take 3 (v := undef) rfl (by kernel_rfl) (by kernel_rfl) (by kernel_rfl) (fun _ _ _ h => h) (Or.inr ⟨by rfl, rfl⟩) (by assumption) ?_))
      (try simp only [Act.put, List.setIfInBounds_toArray, List.set_cons_zero, List.set_cons_succ])
      (first | (refine Reg.take 4 (v := ?_) rfl (by kernel_rfl) (by kernel_rfl) (by kernel_rfl) (fun _ _ _ h => h) (Or.inl ⟨by rfl, ?_⟩) (by assumption) ?_; rotate_left; (focus ((intro W hSW); (try dsimp only at hSW); (try go_split_ands); go_simp; (try (with_reducible rfl)); done))) | (refine Reg.take 4 (v := undef) rfl (by kernel_rfl) (by kernel_rfl) (by kernel_rfl) (fun _ _ _ h => h) (Or.inr ⟨by rfl, rfl⟩) (by assumption) ?_))
      (try simp only [Act.put, List.setIfInBounds_toArray, List.set_cons_zero, List.set_cons_succ])
      (first | (refine Reg.take 5 (v := ?_) rfl (by kernel_rfl) (by kernel_rfl) (by kernel_rfl) (fun _ _ _ h => h) (Or.inl ⟨by rfl, ?_⟩) (by assumption) ?_; rotate_left; (focus ((intro W hSW); (try dsimp only at hSW); (try go_split_ands); go_simp; (try (with_reducible rfl)); done))) | (refine Reg.take 5 (v := undef) rfl (by kernel_rfl) (by kernel_rfl) (by kernel_rfl) (fun _ _ _ h => h) (Or.inr ⟨by rfl, rfl⟩) (by assumption) ?_))
      (try simp only [Act.put, List.setIfInBounds_toArray, List.set_cons_zero, List.set_cons_succ])
      (first | (refine Reg.take 6 (v := ?_) rfl (by kernel_rfl) (by kernel_rfl) (by kernel_rfl) (fun _ _ _ h => h) (Or.inl ⟨by rfl, ?_⟩) (by assumption) ?_; rotate_left; (focus ((intro W hSW); (try dsimp only at hSW); (try go_split_ands); go_simp; (try (with_reducible rfl)); done))) | (refine Reg.take 6 (v := undef) rfl (by kernel_rfl) (by kernel_rfl) (by kernel_rfl) (fun _ _ _ h => h) (Or.inr ⟨by rfl, rfl⟩) (by assumption) ?_))
      (try simp only [Act.put, List.setIfInBounds_toArray, List.set_cons_zero, List.set_cons_succ])
      (first | (refine Reg.take 7 (v := ?_) rfl (by kernel_rfl) (by kernel_rfl) (by kernel_rfl) (fun _ _ _ h => h) (Or.inl ⟨by rfl, ?_⟩) (by assumption) ?_; rotate_left; (focus ((intro W hSW); (try dsimp only at hSW); (try go_split_ands); go_simp; (try (with_reducible rfl)); done))) | (refine Reg.take 7 (v := undef) rfl (by kernel_rfl) (by kernel_rfl) (by kernel_rfl) (fun _ _ _ h => h) (Or.inr ⟨by rfl, rfl⟩) (by assumption) ?_))
      (try simp only [Act.put, List.setIfInBounds_toArray, List.set_cons_zero, List.set_cons_succ])
      (first | (refine Reg.take 8 (v := ?_) rfl (by kernel_rfl) (by kernel_rfl) (by kernel_rfl) (fun _ _ _ h => h) (Or.inl ⟨by rfl, ?_⟩) (by assumption) ?_; rotate_left; (focus ((intro W hSW); (try dsimp only at hSW); (try go_split_ands); go_simp; (try (with_reducible rfl)); done))) | (refine Reg.take 8 (v := undef) rfl (by kernel_rfl) (by kernel_rfl) (by kernel_rfl) (fun _ _ _ h => h) (Or.inr ⟨by rfl, rfl⟩) (by assumption) ?_))
      (try simp only [Act.put, List.setIfInBounds_toArray, List.set_cons_zero, List.set_cons_succ])
      refine Reg.step 9 rfl (by kernel_rfl) (by rfl) (fun K hK => ?_)
      go_simp
      refine (HSD ⟨⟨0, 0, v.z.data⟩, B, k⟩ ⟨⟨0, 0, v.z.data⟩, B2, k2⟩ w17 I0.out.pd DE0.out rfl).out.mono ?_
      rintro e w18 ⟨rfl, hb⟩
      have LE := Lib.hid (I0.out.to hb).below
      refine hK.out _ _ (hcell _ (I0.out.to hb) (EBox.below E0.out hb) (D0.out.below hb)) (fun hHeld2 => ?_)
      clear hK K hb
      (try simp only [Act.put, List.setIfInBounds_toArray, List.set_cons_zero, List.set_cons_succ])
      (first | (refine Reg.take 10 (v := ?_) rfl (by kernel_rfl) (by kernel_rfl) (by kernel_rfl) (fun _ _ _ h => h) (Or.inl ⟨by rfl, ?_⟩) (by assumption) ?_; rotate_left; (focus ((intro W hSW); (try dsimp only at hSW); (try go_split_ands); go_simp; (try (with_reducible rfl)); done))) | (refine Reg.take 10 (v := undef) rfl (by kernel_rfl) (by kernel_rfl) (by kernel_rfl) (fun _ _ _ h => h) (Or.inr ⟨by rfl, rfl⟩) (by assumption) ?_))
      (try simp only [Act.put, List.setIfInBounds_toArray, List.set_cons_zero, List.set_cons_succ])
      (first | (refine Reg.take 11 (v := ?_) rfl (by kernel_rfl) (by kernel_rfl) (by kernel_rfl) (fun _ _ _ h => h) (Or.inl ⟨by rfl, ?_⟩) (by assumption) ?_; rotate_left; (focus ((intro W hSW); (try dsimp only at hSW); (try go_split_ands); go_simp; (try (with_reducible rfl)); done))) | (refine Reg.take 11 (v := undef) rfl (by kernel_rfl) (by kernel_rfl) (by kernel_rfl) (fun _ _ _ h => h) (Or.inr ⟨by rfl, rfl⟩) (by assumption) ?_))
      (try simp only [Act.put, List.setIfInBounds_toArray, List.set_cons_zero, List.set_cons_succ])
      (first | (refine Reg.take 12 (v := ?_) rfl (by kernel_rfl) (by kernel_rfl) (by kernel_rfl) (fun _ _ _ h => h) (Or.inl ⟨by rfl, ?_⟩) (by assumption) ?_; rotate_left; (focus ((intro W hSW); (try dsimp only at hSW); (try go_split_ands); go_simp; (try (with_reducible rfl)); done))) | (refine Reg.take 12 (v := undef) rfl (by kernel_rfl) (by kernel_rfl) (by kernel_rfl) (fun _ _ _ h => h) (Or.inr ⟨by rfl, rfl⟩) (by assumption) ?_))
      (try simp only [Act.put, List.setIfInBounds_toArray, List.set_cons_zero, List.set_cons_succ])
      (first | (refine Reg.take 13 (v := ?_) rfl (by kernel_rfl) (by kernel_rfl) (by kernel_rfl) (fun _ _ _ h => h) (Or.inl ⟨by rfl, ?_⟩) (by assumption) ?_; rotate_left; (focus ((intro W hSW); (try dsimp only at hSW); (try go_split_ands); go_simp; (try (with_reducible rfl)); done))) | (refine Reg.take 13 (v := undef) rfl (by kernel_rfl) (by kernel_rfl) (by kernel_rfl) (fun _ _ _ h => h) (Or.inr ⟨by rfl, rfl⟩) (by assumption) ?_))
      (try simp only [Act.put, List.setIfInBounds_toArray, List.set_cons_zero, List.set_cons_succ])
      (first | (refine Reg.take 14 (v := ?_) rfl (by kernel_rfl) (by kernel_rfl) (by kernel_rfl) (fun _ _ _ h => h) (Or.inl ⟨by rfl, ?_⟩) (by assumption) ?_; rotate_left; (focus ((intro W hSW); (try dsimp only at hSW); (try go_split_ands); go_simp; (try (with_reducible rfl)); done))) | (refine Reg.take 14 (v := undef) rfl (by kernel_rfl) (by kernel_rfl) (by kernel_rfl) (fun _ _ _ h => h) (Or.inr ⟨by rfl, rfl⟩) (by assumption) ?_))
      (try simp only [Act.put, List.setIfInBounds_toArray, List.set_cons_zero, List.set_cons_succ])
      (first | (refine Reg.take 15 (v := ?_) rfl (by kernel_rfl) (by kernel_rfl) (by kernel_rfl) (fun _ _ _ h => h) (Or.inl ⟨by rfl, ?_⟩) (by assumption) ?_; rotate_left; (focus ((intro W hSW); (try dsimp only at hSW); (try go_split_ands); go_simp; (try (with_reducible rfl)); done))) | (refine Reg.take 15 (v := undef) rfl (by kernel_rfl) (by kernel_rfl) (by kernel_rfl) (fun _ _ _ h => h) (Or.inr ⟨by rfl, rfl⟩) (by assumption) ?_))
      (try simp only [Act.put, List.setIfInBounds_toArray, List.set_cons_zero, List.set_cons_succ])
      (first | (refine Reg.take 16 (v := ?_) rfl (by kernel_rfl) (by kernel_rfl) (by kernel_rfl) (fun _ _ _ h => h) (Or.inl ⟨by rfl, ?_⟩) (by assumption) ?_; rotate_left; (focus ((intro W hSW); (try dsimp only at hSW); (try go_split_ands); go_simp; (try (with_reducible rfl)); done))) | (refine Reg.take 16 (v := undef) rfl (by kernel_rfl) (by kernel_rfl) (by kernel_rfl) (fun _ _ _ h => h) (Or.inr ⟨by rfl, rfl⟩) (by assumption) ?_))
      (try simp only [Act.put, List.setIfInBounds_toArray, List.set_cons_zero, List.set_cons_succ])
      (first | (refine Reg.take 17 (v := ?_) rfl (by kernel_rfl) (by kernel_rfl) (by kernel_rfl) (fun _ _ _ h => h) (Or.inl ⟨by rfl, ?_⟩) (by assumption) ?_; rotate_left; (focus ((intro W hSW); (try dsimp only at hSW); (try go_split_ands); go_simp; (try (with_reducible rfl)); done))) | (refine Reg.take 17 (v := undef) rfl (by kernel_rfl) (by kernel_rfl) (by kernel_rfl) (fun _ _ _ h => h) (Or.inr ⟨by rfl, rfl⟩) (by assumption) ?_))
      (try simp only [Act.put, List.setIfInBounds_toArray, List.set_cons_zero, List.set_cons_succ])
      (first | (refine Reg.take 18 (v := ?_) rfl (by kernel_rfl) (by kernel_rfl) (by kernel_rfl) (fun _ _ _ h => h) (Or.inl ⟨by rfl, ?_⟩) (by assumption) ?_; rotate_left; (focus ((intro W hSW); (try dsimp only at hSW); (try go_split_ands); go_simp; (try (with_reducible rfl)); done))) | (refine Reg.take 18 (v := undef) rfl (by kernel_rfl) (by kernel_rfl) (by kernel_rfl) (fun _ _ _ h => h) (Or.inr ⟨by rfl, rfl⟩) (by assumption) ?_))
      (try simp only [Act.put, List.setIfInBounds_toArray, List.set_cons_zero, List.set_cons_succ])
      (first | (refine Reg.take 19 (v := ?_) rfl (by kernel_rfl) (by kernel_rfl) (by kernel_rfl) (fun _ _ _ h => h) (Or.inl ⟨by rfl, ?_⟩) (by assumption) ?_; rotate_left; (focus ((intro W hSW); (try dsimp only at hSW); (try go_split_ands); go_simp; (try (with_reducible rfl)); done))) | (refine Reg.take 19 (v := undef) rfl (by kernel_rfl) (by kernel_rfl) (by kernel_rfl) (fun _ _ _ h => h) (Or.inr ⟨by rfl, rfl⟩) (by assumption) ?_))
      (try simp only [Act.put, List.setIfInBounds_toArray, List.set_cons_zero, List.set_cons_succ])
      (first | (refine Reg.take 20 (v := ?_) rfl (by kernel_rfl) (by kernel_rfl) (by kernel_rfl) (fun _ _ _ h => h) (Or.inl ⟨by rfl, ?_⟩) (by assumption) ?_; rotate_left; (focus ((intro W hSW); (try dsimp only at hSW); (try go_split_ands); go_simp; (try (with_reducible rfl)); done))) | (refine Reg.take 20 (v := undef) rfl (by kernel_rfl) (by kernel_rfl) (by kernel_rfl) (fun _ _ _ h => h) (Or.inr ⟨by rfl, rfl⟩) (by assumption) ?_))
      (try simp only [Act.put, List.setIfInBounds_toArray, List.set_cons_zero, List.set_cons_succ])
      (first | (refine Reg.take 21 (v := ?_) rfl (by kernel_rfl) (by kernel_rfl) (by kernel_rfl) (fun _ _ _ h => h) (Or.inl ⟨by rfl, ?_⟩) (by assumption) ?_; rotate_left; (focus ((intro W hSW); (try dsimp only at hSW); (try go_split_ands); go_simp; (try (with_reducible rfl)); done))) | (refine Reg.take 21 (v := undef) rfl (by kernel_rfl) (by kernel_rfl) (by kernel_rfl) (fun _ _ _ h => h) (Or.inr ⟨by rfl, rfl⟩) (by assumption) ?_))
      (try simp only [Act.put, List.setIfInBounds_toArray, List.set_cons_zero, List.set_cons_succ])
      (first | (refine Reg.take 22 (v := ?_) rfl (by kernel_rfl) (by kernel_rfl) (by kernel_rfl) (fun _ _ _ h => h) (Or.inl ⟨by rfl, ?_⟩) (by assumption) ?_; rotate_left; (focus ((intro W hSW); (try dsimp only at hSW); (try go_split_ands); go_simp; (try (with_reducible rfl)); done))) | (refine Reg.take 22 (v := undef) rfl (by kernel_rfl) (by kernel_rfl) (by kernel_rfl) (fun _ _ _ h => h) (Or.inr ⟨by rfl, rfl⟩) (by assumption) ?_))
      (try simp only [Act.put, List.setIfInBounds_toArray, List.set_cons_zero, List.set_cons_succ])
      (first | (refine Reg.take 23 (v := ?_) rfl (by kernel_rfl) (by kernel_rfl) (by kernel_rfl) (fun _ _ _ h => h) (Or.inl ⟨by rfl, ?_⟩) (by assumption) ?_; rotate_left; (focus ((intro W hSW); (try dsimp only at hSW); (try go_split_ands); go_simp; (try (with_reducible rfl)); done))) | (refine Reg.take 23 (v := undef) rfl (by kernel_rfl) (by kernel_rfl) (by kernel_rfl) (fun _ _ _ h => h) (Or.inr ⟨by rfl, rfl⟩) (by assumption) ?_))
      (try simp only [Act.put, List.setIfInBounds_toArray, List.set_cons_zero, List.set_cons_succ])
      (first | (refine Reg.take 24 (v := ?_) rfl (by kernel_rfl) (by kernel_rfl) (by kernel_rfl) (fun _ _ _ h => h) (Or.inl ⟨by rfl, ?_⟩) (by assumption) ?_; rotate_left; (focus ((intro W hSW); (try dsimp only at hSW); (try go_split_ands); go_simp; (try (with_reducible rfl)); done))) | (refine Reg.take 24 (v := undef) rfl (by kernel_rfl) (by kernel_rfl) (by kernel_rfl) (fun _ _ _ h => h) (Or.inr ⟨by rfl, rfl⟩) (by assumption) ?_))
      (try simp only [Act.put, List.setIfInBounds_toArray, List.set_cons_zero, List.set_cons_succ])
      (first | (refine Reg.take 25 (v := ?_) rfl (by kernel_rfl) (by kernel_rfl) (by kernel_rfl) (fun _ _ _ h => h) (Or.inl ⟨by rfl, ?_⟩) (by assumption) ?_; rotate_left; (focus ((intro W hSW); (try dsimp only at hSW); (try go_split_ands); go_simp; (try (with_reducible rfl)); done))) | (refine Reg.take 25 (v := undef) rfl (by kernel_rfl) (by kernel_rfl) (by kernel_rfl) (fun _ _ _ h => h) (Or.inr ⟨by rfl, rfl⟩) (by assumption) ?_))
      (try simp only [Act.put, List.setIfInBounds_toArray, List.set_cons_zero, List.set_cons_succ])
      (first | (refine Reg.take 26 (v := ?_) rfl (by kernel_rfl) (by kernel_rfl) (by kernel_rfl) (fun _ _ _ h => h) (Or.inl ⟨by rfl, ?_⟩) (by assumption) ?_; rotate_left; (focus ((intro W hSW); (try dsimp only at hSW); (try go_split_ands); go_simp; (try (with_reducible rfl)); done))) | (refine Reg.take 26 (v := undef) rfl (by kernel_rfl) (by kernel_rfl) (by kernel_rfl) (fun _ _ _ h => h) (Or.inr ⟨by rfl, rfl⟩) (by assumption) ?_))
      (try simp only [Act.put, List.setIfInBounds_toArray, List.set_cons_zero, List.set_cons_succ])
      refine wpAnyH_done (by kernel_rfl) ?_ _
      clear hHeld hHeld2 hcell
      go_wp2_with fail
      go_ret
      exact ⟨rfl, LE.out⟩

end Zns
end Go.Proofs.Ytbmblgjilmgkeaa
