/-
  THE STATEMENT ZnsLimits: of a device whose zones are appended to in turn no more zones are open, or active, than may be; the arguments stay as they were. For every input. (Written by gen_laws.py.)
-/
import Derived.Test.YtbmblgjilmgkeaaZnsLimP
namespace Go.Proofs.Ytbmblgjilmgkeaa
open Go.ChangeShapes Go.WideShapes Go.ChangeAt Go.RowKit Mem Zon
namespace Zns

set_option maxRecDepth 100000 in
set_option maxHeartbeats 25600000 in
theorem znsLimits_walk {A : Option Addr} {m mc : Nat} {ts : List Int} {w : World} (zones op ac : Int) (h : Row ci w A m mc ts) :
    Calls Try.prog 6 #[.int .i64 zones, .int .i64 op, .int .i64 ac, .slice A m mc] w fun e w' => e = .returned (.bool true) ∧ Below w.heap.size w w' := by
  have HR := Lib.hid h
  clear h
  obtain ⟨r0, j0, a1, a2, a3, a4, a5, a6⟩ : ∃ (r : Int) (j : Nat), Int.tmod zones 16 = r ∧ -16 < r ∧ r < 16 ∧ Int.tmod (r + 16) 16 = j ∧ (r + 16) % 16 = j ∧ j < 16 := Cut.cut_at zones 16 (by omega)
  obtain ⟨N, hN⟩ : ∃ N : Nat, (1 : Int) + (j0 : Int) = (N : Int) := ⟨1 + j0, by omega⟩
  obtain ⟨r1, j1, b1, b2, b3, b4, b5, b6⟩ := Cut.cut_at ac N (by omega)
  obtain ⟨M, hM⟩ : ∃ M : Nat, (1 : Int) + (j1 : Int) = (M : Int) := ⟨1 + j1, by omega⟩
  obtain ⟨r2, j2, c1, c2, c3, c4, c5, c6⟩ := Cut.cut_at op M (by omega)
  obtain ⟨O, hO⟩ : ∃ O : Nat, (1 : Int) + (j2 : Int) = (O : Int) := ⟨1 + j2, by omega⟩
  have hN0 : ¬ N = 0 := by omega
  have hM0 : ¬ M = 0 := by omega
  have w1' : IntKind.i64.wrap (r0 + 16) = r0 + 16 := by rw [IntKind.wrap_i64]; omega
  have w2' : IntKind.i64.wrap (N : Int) = (N : Int) := by rw [IntKind.wrap_i64]; omega
  have w3' : IntKind.i64.wrap (r1 + N) = r1 + N := by rw [IntKind.wrap_i64]; omega
  have w4' : IntKind.i64.wrap (M : Int) = (M : Int) := by rw [IntKind.wrap_i64]; omega
  have w5' : IntKind.i64.wrap (r2 + M) = r2 + M := by rw [IntKind.wrap_i64]; omega
  have w6' : IntKind.i64.wrap (O : Int) = (O : Int) := by rw [IntKind.wrap_i64]; omega
  have hbd : boundsB N 1000 O M = true := bounds_parts.2 (by omega)
  have HN := fun w => Lib.hid (new_any N 1000 O M w)
  unfold newP at HN
  rw [hbd] at HN
  simp only [cond_true] at HN
  have HDo := fun X x w (h : DevAt w X) (hn : X.n ≤ 1000) (hc : CmdAt w x) (hok : okD X.p = true) => Lib.hid (do_law h hn hc hok)
  have HOp := fun (X : Dx) w (h : RowS cellsZ 3 w X.A X.n X.c X.xs) => Lib.hid (refOpened_any h)
  have HAc := fun (X : Dx) w (h : RowS cellsZ 3 w X.A X.n X.c X.xs) => Lib.hid (refActive_any h)
  have HB1 := Lib.hid (show N ≤ 16 ∧ 1 ≤ M ∧ M ≤ N ∧ 1 ≤ O ∧ O ≤ M from by omega)
  unfold dxv cxv at *
  go_enter Try.func6, Try.ntmps6
  go_wp2_with fail
  refine (live_any w).mono ?_
  rintro e w1 ⟨rfl, hb⟩
  have L1 := Lib.hid hb
  clear hb
  by_cases hm : m ≤ 100
  · have hm' : decide ((100 : Int) < (m : Int)) = false := decide_eq_false (by omega)
    go_wp2_with fail
    refine (HN w1).out.mono ?_
    rintro e w2 ⟨d, rfl, hd, hdp, hb⟩
    have X3 : Hid (LI w w2.heap.size O M N 0 d (w2.alloc (.cells #[.int .i64 d.cap, .int .i64 d.op, .int .i64 d.ac, .slice d.A d.n d.c] 25))) := by
      have hn : d.n = N := by rw [← hd.plen, hdp]; show (List.replicate _ nilZ).length = N; rw [List.length_replicate, Int.toNat_natCast]
      refine ⟨XI.start2 (L1.out.trans (hb.mono L1.out.size)) hd ?_ (by have := HB1.out; omega), congrArg Dv.cap hdp, congrArg Dv.op hdp, congrArg Dv.ac hdp, hn, fun v hv => ?_⟩
      · rw [hdp, Int.toNat_natCast]; exact new_ok hbd
      · have h1 : v.z ∈ d.p.zs := List.mem_map_of_mem hv
        rw [hdp] at h1
        rw [List.eq_of_mem_replicate h1]
        exact ⟨.inl rfl, rfl, Nat.le_refl _⟩
    clear hd hdp hb L1 hbd HN a1 a2 a3 a4 a5 a6 hN b1 b2 b3 b4 b5 b6 hM c1 c2 c3 c4 c5 c6 hO w1' w3' w5'
    go_upto_region 8 with fail
    generalize w2.alloc (.cells #[.int .i64 d.cap, .int .i64 d.op, .int .i64 d.ac, .slice d.A d.n d.c] 25) = w3 at *
    generalize w2.heap.size = gx at *
    go_wp2_with fail
    go_loopw [53] (fun c wr => ∃ (j : Nat) (X : Dx), c = .int .i64 j ∧ j ≤ m ∧ Hid (LI w gx O M N j X wr)) (fun c _ => m - (intOf c).toNat)
    case atStart => exact ⟨0, d, rfl, by omega, X3.out⟩
    case round =>
      obtain ⟨j, X, rfl, hj, hI⟩ := hrel
      by_cases hlt : j < m
      · clear X3
        obtain ⟨t, ht⟩ : ∃ t, ts[j]? = some t := ⟨_, List.getElem?_eq_getElem (by rw [HR.out.len]; exact hlt)⟩
        obtain ⟨b, oo, rfl, hcell⟩ := (HR.out.below hI.out.x.below).cell ht
        replace hcell : wr.cell? ⟨b, oo + j, none⟩ = some (.int .i64 t) := hcell
        have hk0 : (0 : Int) ≤ (j : Int) := by omega
        have hk1 : (j : Int) < (m : Int) := by omega
        obtain ⟨rt, i, q1, q2, q3, q4, q5, q6⟩ := Cut.cut_at t N (by omega)
        have hr2 : IntKind.i64.wrap (rt + N) = rt + N := by rw [IntKind.wrap_i64]; have := HB1.out; omega
        have b6 : Below wr.heap.size wr (wr.alloc (.cells #[.int .u8 1] 5)) := (Below.refl _ wr).alloc (Nat.le_refl _) _
        have I6 := Lib.hid (hI.out.to b6)
        have R6 : Hid (Row cb (wr.alloc (.cells #[.int .u8 1] 5)) (some ⟨wr.heap.size, 0, none⟩) 1 1 [1#8]) := row_new cb wr [1#8] 5 (by decide) rfl (fr := (0, 0)) rfl
        obtain ⟨m0, m1, m2, m3⟩ := hI.out.x.box.cells
        clear ht b6 hI
        have HQ6 := Lib.hid q6
        have HD6 := HDo X ⟨⟨1, i, 0, 0, 0, [1#8]⟩, some ⟨wr.heap.size, 0, none⟩, 1⟩ (wr.alloc (.cells #[.int .u8 1] 5)) I6.out.x.dev I6.out.x.small ⟨R6.out, by show (0 : Int) ≤ _; decide⟩ I6.out.x.ok
        simp only [List.length_cons, List.length_nil, Nat.zero_add] at HD6
        go_wp2_with fail
        refine HD6.out.mono ?_
        rintro e w7 ⟨Y, ⟨⟨pe, pa, pb⟩, PB, pk⟩, rfl, hdY, -, hY1, hY2, hYn, hb, hYa⟩
        have hL := lim_do I6.out.x.ok I6.out.cap I6.out.op I6.out.ac I6.out.all (by omega) (i := i) (by rw [I6.out.x.dev.row.len, I6.out.n]; exact HQ6.out) hY1 hY2
        clear hY1 hY2 HD6 R6
        obtain ⟨hpe, l1, l2, l3, l4, l5, l6, l7⟩ := hL
        have hpe : pe = 0 ∨ (pe = 44 ∧ cntA X.xs = M) := hpe.imp id (fun h => ⟨h.1, by have := h.2; omega⟩)
        have hO1 : decide (O < cntO Y.xs) = false := decide_eq_false (by omega)
        have hA1 : decide (M < cntA Y.xs) = false := decide_eq_false (by omega)
        have YA : Hid (∀ q o, Y.A = some ⟨q, o, none⟩ → gx < q) := by
          show ∀ _, _
          intro q o e
          have h1 := hYa q o e
          have h2 := I6.out.x.box.lt
          omega
        have b7 : Below w7.heap.size w7 ((w7.alloc (.cells #[.int .i64 Y.cap, .int .i64 Y.op, .int .i64 Y.ac, .slice Y.A Y.n Y.c] 25)).alloc (.cells #[.int .i64 pe, .int .i64 pa, .slice PB pb.length pk] 38)) := ((Below.refl w7.heap.size w7).alloc (Nat.le_refl _) _).alloc (by simp) _
        have I8 := Lib.hid ((I6.out.to hb).to b7)
        have Y8 : Hid (DBox ((w7.alloc (.cells #[.int .i64 Y.cap, .int .i64 Y.op, .int .i64 Y.ac, .slice Y.A Y.n Y.c] 25)).alloc (.cells #[.int .i64 pe, .int .i64 pa, .slice PB pb.length pk] 38)) w7.heap.size Y) := heap_alloc2_old w7 _ _
        have P8 : Hid (EBox ((w7.alloc (.cells #[.int .i64 Y.cap, .int .i64 Y.op, .int .i64 Y.ac, .slice Y.A Y.n Y.c] 25)).alloc (.cells #[.int .i64 pe, .int .i64 pa, .slice PB pb.length pk] 38)) (w7.heap.size + 1) pe pa PB pb.length pk) := heap_alloc2_new w7 _ _
        have DY8 := Lib.hid (hdY.below b7)
        have HL : Hid (Y.cap = 1000 ∧ Y.op = O ∧ Y.ac = M ∧ (∀ v ∈ Y.xs, LZ (j + 1) v.z) ∧ okD Y.p = true ∧ Y.n = X.n) := ⟨l1, l2, l3, l4, l5, hYn⟩
        clear hdY hYn hb hYa b7 m0 m1 m2 m3 hcell I6 l1 l2 l3 l4 l5 l6 l7 q1 q2 q3 q4 q5 q6 hr2
        go_upto_region 15 with fail
        generalize (w7.alloc (.cells #[.int .i64 Y.cap, .int .i64 Y.op, .int .i64 Y.ac, .slice Y.A Y.n Y.c] 25)).alloc (.cells #[.int .i64 pe, .int .i64 pa, .slice PB pb.length pk] 38) = w8 at *
        generalize w7.heap.size + 1 = gp at *
        generalize w7.heap.size = gy at *
        obtain ⟨p0, p1, p2⟩ := P8.out.cells
        obtain ⟨k0, k1, k2, k3⟩ := Y8.out.cells
        rcases hpe with rfl | ⟨rfl, hac⟩
        · rcases hlt2 : decide (i < M)
          · go_wp2_with fail
            refine (HOp Y w8 DY8.out.row).out.mono ?_
            rintro e w9 ⟨rfl, hb⟩
            have I9 := Lib.hid (I8.out.to hb)
            have Y9 := Lib.hid (Y8.out.below hb)
            have DY9 := Lib.hid (DY8.out.below hb)
            clear hb p0 p1 p2 k0 k1 k2 k3
            obtain ⟨k0, k1, k2, k3⟩ := Y9.out.cells
            go_wp2_with fail
            refine (HAc Y w9 DY9.out.row).out.mono ?_
            rintro e w10 ⟨rfl, hb⟩
            have I10 := Lib.hid (I9.out.to hb)
            have Y10 := Lib.hid (Y9.out.below hb)
            have DY10 := Lib.hid (DY9.out.below hb)
            clear hb
            clear k0 k1 k2 k3
            obtain ⟨m0, m1, m2, m3⟩ := I10.out.x.box.cells
            obtain ⟨f0, f1, f2, f3⟩ := I10.out.x.box.frozen
            obtain ⟨k0, k1, k2, k3⟩ := Y10.out.cells
            have IN : Hid (LI w gx O M N (j + 1) Y _) := ⟨I10.out.x.store DY10.out HL.out.2.2.2.2.1 YA.out (by rw [HL.out.2.2.2.2.2]; exact I10.out.x.small), HL.out.1, HL.out.2.1, HL.out.2.2.1, HL.out.2.2.2.2.2.trans I10.out.n, HL.out.2.2.2.1⟩
            go_wp2_with fail
            go_roundw
            case rel => exact ⟨_, _, _, _, _, _, _, _, _, _, _, _, _, _, _, _, _, _, _, _, _, _, _, _, _, _, _, _, _, _, _, _, _, _, _, _, _, _, _, _, _, _, _, _, _, _, _, _, _, _, _, _, _, _, _, _, _, _, _, _, _, _, _, _, _, _, _, _, _, _, _, _, _, ⟨j + 1, Y, by go_num, by omega, IN.out⟩, rfl⟩
            case measure => simp [intOf]; omega
          · go_wp2_with fail
            refine (HOp Y w8 DY8.out.row).out.mono ?_
            rintro e w9 ⟨rfl, hb⟩
            have I9 := Lib.hid (I8.out.to hb)
            have Y9 := Lib.hid (Y8.out.below hb)
            have DY9 := Lib.hid (DY8.out.below hb)
            clear hb p0 p1 p2 k0 k1 k2 k3
            obtain ⟨k0, k1, k2, k3⟩ := Y9.out.cells
            go_wp2_with fail
            refine (HAc Y w9 DY9.out.row).out.mono ?_
            rintro e w10 ⟨rfl, hb⟩
            have I10 := Lib.hid (I9.out.to hb)
            have Y10 := Lib.hid (Y9.out.below hb)
            have DY10 := Lib.hid (DY9.out.below hb)
            clear hb
            clear k0 k1 k2 k3
            obtain ⟨m0, m1, m2, m3⟩ := I10.out.x.box.cells
            obtain ⟨f0, f1, f2, f3⟩ := I10.out.x.box.frozen
            obtain ⟨k0, k1, k2, k3⟩ := Y10.out.cells
            have IN : Hid (LI w gx O M N (j + 1) Y _) := ⟨I10.out.x.store DY10.out HL.out.2.2.2.2.1 YA.out (by rw [HL.out.2.2.2.2.2]; exact I10.out.x.small), HL.out.1, HL.out.2.1, HL.out.2.2.1, HL.out.2.2.2.2.2.trans I10.out.n, HL.out.2.2.2.1⟩
            go_wp2_with fail
            go_roundw
            case rel => exact ⟨_, _, _, _, _, _, _, _, _, _, _, _, _, _, _, _, _, _, _, _, _, _, _, _, _, _, _, _, _, _, _, _, _, _, _, _, _, _, _, _, _, _, _, _, _, _, _, _, _, _, _, _, _, _, _, _, _, _, _, _, _, _, _, _, _, _, _, _, _, _, _, _, _, ⟨j + 1, Y, by go_num, by omega, IN.out⟩, rfl⟩
            case measure => simp [intOf]; omega
        · rcases hlt2 : decide (i < M)
          · go_wp2_with fail
            refine (HOp Y w8 DY8.out.row).out.mono ?_
            rintro e w9 ⟨rfl, hb⟩
            have I9 := Lib.hid (I8.out.to hb)
            have Y9 := Lib.hid (Y8.out.below hb)
            have DY9 := Lib.hid (DY8.out.below hb)
            clear hb p0 p1 p2 k0 k1 k2 k3
            obtain ⟨k0, k1, k2, k3⟩ := Y9.out.cells
            go_wp2_with fail
            refine (HAc Y w9 DY9.out.row).out.mono ?_
            rintro e w10 ⟨rfl, hb⟩
            have I10 := Lib.hid (I9.out.to hb)
            have Y10 := Lib.hid (Y9.out.below hb)
            have DY10 := Lib.hid (DY9.out.below hb)
            clear hb
            clear k0 k1 k2 k3
            obtain ⟨m0, m1, m2, m3⟩ := I10.out.x.box.cells
            obtain ⟨f0, f1, f2, f3⟩ := I10.out.x.box.frozen
            obtain ⟨k0, k1, k2, k3⟩ := Y10.out.cells
            have IN : Hid (LI w gx O M N (j + 1) Y _) := ⟨I10.out.x.store DY10.out HL.out.2.2.2.2.1 YA.out (by rw [HL.out.2.2.2.2.2]; exact I10.out.x.small), HL.out.1, HL.out.2.1, HL.out.2.2.1, HL.out.2.2.2.2.2.trans I10.out.n, HL.out.2.2.2.1⟩
            go_wp2_with fail
            go_roundw
            case rel => exact ⟨_, _, _, _, _, _, _, _, _, _, _, _, _, _, _, _, _, _, _, _, _, _, _, _, _, _, _, _, _, _, _, _, _, _, _, _, _, _, _, _, _, _, _, _, _, _, _, _, _, _, _, _, _, _, _, _, _, _, _, _, _, _, _, _, _, _, _, _, _, _, _, _, _, ⟨j + 1, Y, by go_num, by omega, IN.out⟩, rfl⟩
            case measure => simp [intOf]; omega
          · obtain ⟨m0, m1, m2, m3⟩ := I8.out.x.box.cells
            go_wp2_with fail
            refine (HAc X w8 I8.out.x.dev.row).out.mono ?_
            rintro e w9 ⟨rfl, hb⟩
            have I9 := Lib.hid (I8.out.to hb)
            have Y9 := Lib.hid (Y8.out.below hb)
            have DY9 := Lib.hid (DY8.out.below hb)
            clear hb
            clear p0 p1 p2 k0 k1 k2 k3 m0 m1 m2 m3
            obtain ⟨m0, m1, m2, m3⟩ := I9.out.x.box.cells
            obtain ⟨f0, f1, f2, f3⟩ := I9.out.x.box.frozen
            obtain ⟨k0, k1, k2, k3⟩ := Y9.out.cells
            have IN : Hid (LI w gx O M N (j + 1) Y _) := ⟨I9.out.x.store DY9.out HL.out.2.2.2.2.1 YA.out (by rw [HL.out.2.2.2.2.2]; exact I9.out.x.small), HL.out.1, HL.out.2.1, HL.out.2.2.1, HL.out.2.2.2.2.2.trans I9.out.n, HL.out.2.2.2.1⟩
            go_wp2_with fail
            go_roundw
            case rel => exact ⟨_, _, _, _, _, _, _, _, _, _, _, _, _, _, _, _, _, _, _, _, _, _, _, _, _, _, _, _, _, _, _, _, _, _, _, _, _, _, _, _, _, _, _, _, _, _, _, _, _, _, _, _, _, _, _, _, _, _, _, _, _, _, _, _, _, _, _, _, _, _, _, _, _, ⟨j + 1, Y, by go_num, by omega, IN.out⟩, rfl⟩
            case measure => simp [intOf]; omega
      · go_wp2_with fail
        go_ret
        exact ⟨rfl, hI.out.x.below⟩
  · have hm' : decide ((100 : Int) < (m : Int)) = true := decide_eq_true (by omega)
    go_wp2_with fail
    go_ret
    exact ⟨rfl, L1.out⟩
end Zns
end Go.Proofs.Ytbmblgjilmgkeaa
