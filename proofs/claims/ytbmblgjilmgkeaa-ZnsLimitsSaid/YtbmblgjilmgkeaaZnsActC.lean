/-
  A WALK OVER zns'S ACT tear. (Written by gen_acts.py.)
-/
import Derived.Test.YtbmblgjilmgkeaaZnsActB
namespace Go.Proofs.Ytbmblgjilmgkeaa
open Go.RowKit Mem Zon
namespace Zns

set_option maxRecDepth 100000 in
set_option maxHeartbeats 12800000 in
theorem tear_act {k : Dk} {xs : List Zv} {w : World} {i : Nat} {v : Zv} {x : Cx} (h : Desk k xs w) (hv : xs[i]? = some v) (hc : CmdAt w x) (hzi : x.c.zone = (i : Int)) :
    Calls Try.prog 40 #[.pointer (some ⟨k.g, 0, none⟩), cxv x] w (Acted k w (tearP k.cap k.op k.ac (xs.map Zv.z) i x.c)) := by
  have H0 := Lib.hid h
  have hi0 : (0 : Int) ≤ (i : Int) := by omega
  have hi1 : (i : Int) < (k.n : Int) := by have := (List.getElem?_eq_some_iff.1 hv).1; have := h.len; omega
  obtain ⟨L1, C1, N1⟩ := act_new w x i
  have H1 := Lib.hid (h.below L1.out)
  have HV := Lib.hid hv
  have HA := Lib.hid (atI_of hv)
  have hcell := fun W (h : Desk k xs W) (hb : CBox W w.heap.size x.c.d i x.c.epoch x.c.off x.c.n x.B x.c.b.length x.k) => And.intro (And.intro h.cells.1 h.cells.2.2.2.1) (And.intro (CBox.cells hb).2 (h.elem hv))
  have RB := Lib.hid hc.row
  have HC := fun w (h : Row cb w v.D v.z.data.length v.c v.z.data) (h2 : Row cb w x.B x.c.b.length x.k x.c.b) => Lib.hid (append_any (most := k.cap) h h2)
  have HT := fun w (h : Row cb w v.D v.z.data.length v.c v.z.data) (h2 : Row cb w x.B x.c.b.length x.k x.c.b) => Lib.hid (torn_any (most := k.cap) (keep := x.c.n) h h2)
  have HTC := fun w (h : Desk k xs w) => Lib.hid (toClose_any h hv)
  have HP := fun w (z : Zn) D c (h : Desk k xs w) (hr : Row cb w D z.data.length c z.data) => Lib.hid (putOpen_any z D c h hv hr)
  have HZL1 : Hid ((appRes v.z k.cap x.c.b).data.length ≤ 140737488351232) := by
    have := appRes_small v.z k.cap x.c.b
    show _ ≤ _
    omega
  have HZL2 : Hid ((tornZ v.z k.cap x.c.b x.c.n).data.length ≤ 140737488351232) := by
    have := tornZ_small v.z k.cap x.c.b x.c.n
    show _ ≤ _
    omega
  clear h hv hc
  unfold cxv
  rw [hzi]
  have HPL := Lib.hid (show (bif appErr v.z k.cap x.c.b.length == 0 then
    (bif (toCl k.op k.ac (xs.map Zv.z) v.z).2 == 0 then
      (bif tornErr v.z k.cap x.c.b x.c.n == 0 then
        (bif x.c.n == 0 then (xs.map Zv.z, fail_ 0) else ((putO k.op k.ac (xs.map Zv.z) i (tornZ v.z k.cap x.c.b x.c.n)).1, fail_ (putO k.op k.ac (xs.map Zv.z) i (tornZ v.z k.cap x.c.b x.c.n)).2))
      else (xs.map Zv.z, fail_ (tornErr v.z k.cap x.c.b x.c.n)))
    else (xs.map Zv.z, fail_ (toCl k.op k.ac (xs.map Zv.z) v.z).2))
  else (xs.map Zv.z, fail_ (appErr v.z k.cap x.c.b.length))) = tearP k.cap k.op k.ac (xs.map Zv.z) i x.c by unfold tearP; rw [HA.out])
  generalize tearP k.cap k.op k.ac (xs.map Zv.z) i x.c = rr at *
  generalize appErr v.z k.cap x.c.b.length = er at *
  generalize appAt v.z k.cap x.c.b.length = at_ at *
  generalize tornErr v.z k.cap x.c.b x.c.n = te at *
  generalize (toCl k.op k.ac (xs.map Zv.z) v.z).1 = oc at *
  generalize (toCl k.op k.ac (xs.map Zv.z) v.z).2 = ce at *
  generalize tornZ v.z k.cap x.c.b x.c.n = zt at *
  generalize appRes v.z k.cap x.c.b = zz at *
  unfold zv GaveZ PutO at *
  go_enter Try.func40, Try.ntmps40
  go_upto_region 1 with fail
  generalize (w.alloc (.cells #[.int .i64 x.c.d, .int .i64 (i : Int), .int .i64 x.c.epoch, .int .i64 x.c.off, .int .i64 x.c.n, .slice x.B x.c.b.length x.k] 36)).alloc (.cells #[.int .i64 0, .int .i64 0, .slice none 0 0] 38) = w1 at *
  go_cut [7] (fun t wx => t = .int .i64 er ∧ Hid (Below w1.heap.size w1 wx))
  case first =>
    have HZL := HZL1
    have H2 : Hid (Desk k xs w1.drew) := H1.out.below (Below.refl _ w1).drew
    have C2 : Hid (CBox w1.drew w.heap.size x.c.d i x.c.epoch x.c.off x.c.n x.B x.c.b.length x.k) := C1
    have L2 : Hid (Below w1.heap.size w1 w1.drew) := (Below.refl _ w1).drew
    refine wp_region_held_drew (S := fun W => (W.cell? ⟨k.g, 0, none⟩ = some (.int .i64 k.cap) ∧ W.cell? ⟨k.g, 3, none⟩ = some (.slice (some ⟨k.q, k.o, none⟩) k.n k.c)) ∧ (W.cell? ⟨w.heap.size, 1, none⟩ = some (.int .i64 (i : Int)) ∧ W.cell? ⟨w.heap.size, 2, none⟩ = some (.int .i64 x.c.epoch) ∧ W.cell? ⟨w.heap.size, 3, none⟩ = some (.int .i64 x.c.off) ∧ W.cell? ⟨w.heap.size, 4, none⟩ = some (.int .i64 x.c.n) ∧ W.cell? ⟨w.heap.size, 5, none⟩ = some (.slice x.B x.c.b.length x.k)) ∧ (W.cell? ⟨k.q, k.o + i * 3, none⟩ = some (.int .i64 v.z.st) ∧ W.cell? ⟨k.q, k.o + i * 3 + 1, none⟩ = some (.int .i64 v.z.fc) ∧ W.cell? ⟨k.q, k.o + i * 3 + 2, none⟩ = some (.slice v.D v.z.data.length v.c)))
      (by kernel_rfl) (hcell _ H2.out C2.out) (fun hHeld => ?_)
    generalize w1.drew = w2 at *
    (first | (refine Reg.take 0 (v := ?_) rfl (by kernel_rfl) (by kernel_rfl) (by kernel_rfl) (fun _ _ _ h => h) (Or.inl ⟨by rfl, ?_⟩) (by assumption) ?_; rotate_left; (focus ((intro W hSW); (try dsimp only at hSW); (try go_split_ands); go_simp; (try (with_reducible rfl)); done))) | (refine Reg.take 0 (v := undef) rfl (by kernel_rfl) (by kernel_rfl) (by kernel_rfl) (fun _ _ _ h => h) (Or.inr ⟨by rfl, rfl⟩) (by assumption) ?_))
    (try simp only [Act.put, List.setIfInBounds_toArray, List.set_cons_zero, List.set_cons_succ])
    (first | (refine Reg.take 1 (v := ?_) rfl (by kernel_rfl) (by kernel_rfl) (by kernel_rfl) (fun _ _ _ h => h) (Or.inl ⟨by rfl, ?_⟩) (by assumption) ?_; rotate_left; (focus ((intro W hSW); (try dsimp only at hSW); (try go_split_ands); go_simp; (try (with_reducible rfl)); done))) | (refine Reg.take 1 (v := undef) rfl (by kernel_rfl) (by kernel_rfl) (by kernel_rfl) (fun _ _ _ h => h) (Or.inr ⟨by rfl, rfl⟩) (by assumption) ?_))
    (try simp only [Act.put, List.setIfInBounds_toArray, List.set_cons_zero, List.set_cons_succ])
    (first | (refine Reg.take 2 (v := ?_) rfl (by kernel_rfl) (by kernel_rfl) (by kernel_rfl) (fun _ _ _ h => h) (Or.inl ⟨by rfl, ?_⟩) (by assumption) ?_; rotate_left; (focus ((intro W hSW); (try dsimp only at hSW); (try go_split_ands); go_simp; (try (with_reducible rfl)); done))) | (refine Reg.take 2 (v := undef) rfl (by kernel_rfl) (by kernel_rfl) (by kernel_rfl) (fun _ _ _ h => h) (Or.inr ⟨by rfl, rfl⟩) (by assumption) ?_))
    (try simp only [Act.put, List.setIfInBounds_toArray, List.set_cons_zero, List.set_cons_succ])
    (first | (refine Reg.take 3 (v := ?_) rfl (by kernel_rfl) (by kernel_rfl) (by kernel_rfl) (fun _ _ _ h => h) (Or.inl ⟨by rfl, ?_⟩) (by assumption) ?_; rotate_left; (focus ((intro W hSW); (try dsimp only at hSW); (try go_split_ands); go_simp; (try (with_reducible rfl)); done))) | (refine Reg.take 3 (v := undef) rfl (by kernel_rfl) (by kernel_rfl) (by kernel_rfl) (fun _ _ _ h => h) (Or.inr ⟨by rfl, rfl⟩) (by assumption) ?_))
    (try simp only [Act.put, List.setIfInBounds_toArray, List.set_cons_zero, List.set_cons_succ])
    (first | (refine Reg.take 4 (v := ?_) rfl (by kernel_rfl) (by kernel_rfl) (by kernel_rfl) (fun _ _ _ h => h) (Or.inl ⟨by rfl, ?_⟩) (by assumption) ?_; rotate_left; (focus ((intro W hSW); (try dsimp only at hSW); (try go_split_ands); go_simp; (try (with_reducible rfl)); done))) | (refine Reg.take 4 (v := undef) rfl (by kernel_rfl) (by kernel_rfl) (by kernel_rfl) (fun _ _ _ h => h) (Or.inr ⟨by rfl, rfl⟩) (by assumption) ?_))
    (try simp only [Act.put, List.setIfInBounds_toArray, List.set_cons_zero, List.set_cons_succ])
    (first | (refine Reg.take 5 (v := ?_) rfl (by kernel_rfl) (by kernel_rfl) (by kernel_rfl) (fun _ _ _ h => h) (Or.inl ⟨by rfl, ?_⟩) (by assumption) ?_; rotate_left; (focus ((intro W hSW); (try dsimp only at hSW); (try go_split_ands); go_simp; (try (with_reducible rfl)); done))) | (refine Reg.take 5 (v := undef) rfl (by kernel_rfl) (by kernel_rfl) (by kernel_rfl) (fun _ _ _ h => h) (Or.inr ⟨by rfl, rfl⟩) (by assumption) ?_))
    (try simp only [Act.put, List.setIfInBounds_toArray, List.set_cons_zero, List.set_cons_succ])
    (first | (refine Reg.take 6 (v := ?_) rfl (by kernel_rfl) (by kernel_rfl) (by kernel_rfl) (fun _ _ _ h => h) (Or.inl ⟨by rfl, ?_⟩) (by assumption) ?_; rotate_left; (focus ((intro W hSW); (try dsimp only at hSW); (try go_split_ands); go_simp; (try (with_reducible rfl)); done))) | (refine Reg.take 6 (v := undef) rfl (by kernel_rfl) (by kernel_rfl) (by kernel_rfl) (fun _ _ _ h => h) (Or.inr ⟨by rfl, rfl⟩) (by assumption) ?_))
    (try simp only [Act.put, List.setIfInBounds_toArray, List.set_cons_zero, List.set_cons_succ])
    (first | (refine Reg.take 7 (v := ?_) rfl (by kernel_rfl) (by kernel_rfl) (by kernel_rfl) (fun _ _ _ h => h) (Or.inl ⟨by rfl, ?_⟩) (by assumption) ?_; rotate_left; (focus ((intro W hSW); (try dsimp only at hSW); (try go_split_ands); go_simp; (try (with_reducible rfl)); done))) | (refine Reg.take 7 (v := undef) rfl (by kernel_rfl) (by kernel_rfl) (by kernel_rfl) (fun _ _ _ h => h) (Or.inr ⟨by rfl, rfl⟩) (by assumption) ?_))
    (try simp only [Act.put, List.setIfInBounds_toArray, List.set_cons_zero, List.set_cons_succ])
    (first | (refine Reg.take 8 (v := ?_) rfl (by kernel_rfl) (by kernel_rfl) (by kernel_rfl) (fun _ _ _ h => h) (Or.inl ⟨by rfl, ?_⟩) (by assumption) ?_; rotate_left; (focus ((intro W hSW); (try dsimp only at hSW); (try go_split_ands); go_simp; (try (with_reducible rfl)); done))) | (refine Reg.take 8 (v := undef) rfl (by kernel_rfl) (by kernel_rfl) (by kernel_rfl) (fun _ _ _ h => h) (Or.inr ⟨by rfl, rfl⟩) (by assumption) ?_))
    (try simp only [Act.put, List.setIfInBounds_toArray, List.set_cons_zero, List.set_cons_succ])
    (first | (refine Reg.take 9 (v := ?_) rfl (by kernel_rfl) (by kernel_rfl) (by kernel_rfl) (fun _ _ _ h => h) (Or.inl ⟨by rfl, ?_⟩) (by assumption) ?_; rotate_left; (focus ((intro W hSW); (try dsimp only at hSW); (try go_split_ands); go_simp; (try (with_reducible rfl)); done))) | (refine Reg.take 9 (v := undef) rfl (by kernel_rfl) (by kernel_rfl) (by kernel_rfl) (fun _ _ _ h => h) (Or.inr ⟨by rfl, rfl⟩) (by assumption) ?_))
    (try simp only [Act.put, List.setIfInBounds_toArray, List.set_cons_zero, List.set_cons_succ])
    (first | (refine Reg.take 10 (v := ?_) rfl (by kernel_rfl) (by kernel_rfl) (by kernel_rfl) (fun _ _ _ h => h) (Or.inl ⟨by rfl, ?_⟩) (by assumption) ?_; rotate_left; (focus ((intro W hSW); (try dsimp only at hSW); (try go_split_ands); go_simp; (try (with_reducible rfl)); done))) | (refine Reg.take 10 (v := undef) rfl (by kernel_rfl) (by kernel_rfl) (by kernel_rfl) (fun _ _ _ h => h) (Or.inr ⟨by rfl, rfl⟩) (by assumption) ?_))
    (try simp only [Act.put, List.setIfInBounds_toArray, List.set_cons_zero, List.set_cons_succ])
    (first | (refine Reg.take 11 (v := ?_) rfl (by kernel_rfl) (by kernel_rfl) (by kernel_rfl) (fun _ _ _ h => h) (Or.inl ⟨by rfl, ?_⟩) (by assumption) ?_; rotate_left; (focus ((intro W hSW); (try dsimp only at hSW); (try go_split_ands); go_simp; (try (with_reducible rfl)); done))) | (refine Reg.take 11 (v := undef) rfl (by kernel_rfl) (by kernel_rfl) (by kernel_rfl) (fun _ _ _ h => h) (Or.inr ⟨by rfl, rfl⟩) (by assumption) ?_))
    (try simp only [Act.put, List.setIfInBounds_toArray, List.set_cons_zero, List.set_cons_succ])
    (first | (refine Reg.take 12 (v := ?_) rfl (by kernel_rfl) (by kernel_rfl) (by kernel_rfl) (fun _ _ _ h => h) (Or.inl ⟨by rfl, ?_⟩) (by assumption) ?_; rotate_left; (focus ((intro W hSW); (try dsimp only at hSW); (try go_split_ands); go_simp; (try (with_reducible rfl)); done))) | (refine Reg.take 12 (v := undef) rfl (by kernel_rfl) (by kernel_rfl) (by kernel_rfl) (fun _ _ _ h => h) (Or.inr ⟨by rfl, rfl⟩) (by assumption) ?_))
    (try simp only [Act.put, List.setIfInBounds_toArray, List.set_cons_zero, List.set_cons_succ])
    (first | (refine Reg.take 13 (v := ?_) rfl (by kernel_rfl) (by kernel_rfl) (by kernel_rfl) (fun _ _ _ h => h) (Or.inl ⟨by rfl, ?_⟩) (by assumption) ?_; rotate_left; (focus ((intro W hSW); (try dsimp only at hSW); (try go_split_ands); go_simp; (try (with_reducible rfl)); done))) | (refine Reg.take 13 (v := undef) rfl (by kernel_rfl) (by kernel_rfl) (by kernel_rfl) (fun _ _ _ h => h) (Or.inr ⟨by rfl, rfl⟩) (by assumption) ?_))
    (try simp only [Act.put, List.setIfInBounds_toArray, List.set_cons_zero, List.set_cons_succ])
    (first | (refine Reg.take 14 (v := ?_) rfl (by kernel_rfl) (by kernel_rfl) (by kernel_rfl) (fun _ _ _ h => h) (Or.inl ⟨by rfl, ?_⟩) (by assumption) ?_; rotate_left; (focus ((intro W hSW); (try dsimp only at hSW); (try go_split_ands); go_simp; (try (with_reducible rfl)); done))) | (refine Reg.take 14 (v := undef) rfl (by kernel_rfl) (by kernel_rfl) (by kernel_rfl) (fun _ _ _ h => h) (Or.inr ⟨by rfl, rfl⟩) (by assumption) ?_))
    (try simp only [Act.put, List.setIfInBounds_toArray, List.set_cons_zero, List.set_cons_succ])
    (first | (refine Reg.take 15 (v := ?_) rfl (by kernel_rfl) (by kernel_rfl) (by kernel_rfl) (fun _ _ _ h => h) (Or.inl ⟨by rfl, ?_⟩) (by assumption) ?_; rotate_left; (focus ((intro W hSW); (try dsimp only at hSW); (try go_split_ands); go_simp; (try (with_reducible rfl)); done))) | (refine Reg.take 15 (v := undef) rfl (by kernel_rfl) (by kernel_rfl) (by kernel_rfl) (fun _ _ _ h => h) (Or.inr ⟨by rfl, rfl⟩) (by assumption) ?_))
    (try simp only [Act.put, List.setIfInBounds_toArray, List.set_cons_zero, List.set_cons_succ])
    refine Reg.step2 16 21 rfl rfl (by kernel_rfl) (by rfl) (by rfl) (fun K hK => ?_) (fun K hK => ?_)
    · go_simp
      refine (HC w2 (H2.out.data_at HV.out) ((RB.out.below L1.out).below L2.out)).out.mono ?_
      rintro e w3 ⟨X, q, rfl, hX, hb⟩
      unfold zv
      have RX := Lib.hid hX
      have H3 := Lib.hid (H2.out.below hb)
      have C3 := Lib.hid (CBox.below C2.out hb)
      have L3 := Lib.hid (L2.out.trans (hb.mono L2.out.size))
      clear hX hb H2 C2 L2
      refine hK.out _ _ (hcell _ H3.out C3.out) (fun hHeld2 => ?_)
      clear hK K
      (try simp only [Act.put, List.setIfInBounds_toArray, List.set_cons_zero, List.set_cons_succ])
      (first | (refine Reg.take 17 (v := ?_) rfl (by kernel_rfl) (by kernel_rfl) (by kernel_rfl) (fun _ _ _ h => h) (Or.inl ⟨by rfl, ?_⟩) (by assumption) ?_; rotate_left; (focus ((intro W hSW); (try dsimp only at hSW); (try go_split_ands); go_simp; (try (with_reducible rfl)); done))) | (refine Reg.take 17 (v := undef) rfl (by kernel_rfl) (by kernel_rfl) (by kernel_rfl) (fun _ _ _ h => h) (Or.inr ⟨by rfl, rfl⟩) (by assumption) ?_))
      (try simp only [Act.put, List.setIfInBounds_toArray, List.set_cons_zero, List.set_cons_succ])
      (first | (refine Reg.take 18 (v := ?_) rfl (by kernel_rfl) (by kernel_rfl) (by kernel_rfl) (fun _ _ _ h => h) (Or.inl ⟨by rfl, ?_⟩) (by assumption) ?_; rotate_left; (focus ((intro W hSW); (try dsimp only at hSW); (try go_split_ands); go_simp; (try (with_reducible rfl)); done))) | (refine Reg.take 18 (v := undef) rfl (by kernel_rfl) (by kernel_rfl) (by kernel_rfl) (fun _ _ _ h => h) (Or.inr ⟨by rfl, rfl⟩) (by assumption) ?_))
      (try simp only [Act.put, List.setIfInBounds_toArray, List.set_cons_zero, List.set_cons_succ])
      (first | (refine Reg.take 19 (v := ?_) rfl (by kernel_rfl) (by kernel_rfl) (by kernel_rfl) (fun _ _ _ h => h) (Or.inl ⟨by rfl, ?_⟩) (by assumption) ?_; rotate_left; (focus ((intro W hSW); (try dsimp only at hSW); (try go_split_ands); go_simp; (try (with_reducible rfl)); done))) | (refine Reg.take 19 (v := undef) rfl (by kernel_rfl) (by kernel_rfl) (by kernel_rfl) (fun _ _ _ h => h) (Or.inr ⟨by rfl, rfl⟩) (by assumption) ?_))
      (try simp only [Act.put, List.setIfInBounds_toArray, List.set_cons_zero, List.set_cons_succ])
      (first | (refine Reg.take 20 (v := ?_) rfl (by kernel_rfl) (by kernel_rfl) (by kernel_rfl) (fun _ _ _ h => h) (Or.inl ⟨by rfl, ?_⟩) (by assumption) ?_; rotate_left; (focus ((intro W hSW); (try dsimp only at hSW); (try go_split_ands); go_simp; (try (with_reducible rfl)); done))) | (refine Reg.take 20 (v := undef) rfl (by kernel_rfl) (by kernel_rfl) (by kernel_rfl) (fun _ _ _ h => h) (Or.inr ⟨by rfl, rfl⟩) (by assumption) ?_))
      (try simp only [Act.put, List.setIfInBounds_toArray, List.set_cons_zero, List.set_cons_succ])
      refine Reg.step 21 rfl (by kernel_rfl) (by rfl) (fun K hK => ?_)
      go_simp
      have b4 : Below w3.heap.size w3 (w3.alloc (.cells #[.int .i64 0, .int .i64 0, .slice none 0 0] 42)) := (Below.refl _ w3).alloc (Nat.le_refl _) _
      refine hK.out _ _ (hcell _ (H3.out.below b4) (CBox.below C3.out b4)) (fun hHeld2 => ?_)
      clear hK K b4
      (try simp only [Act.put, List.setIfInBounds_toArray, List.set_cons_zero, List.set_cons_succ])
      refine Reg.step 22 rfl (by kernel_rfl) (by rfl) (fun K hK => ?_)
      go_simp
      have b4 : Below w3.heap.size w3 (w3.alloc (.cells #[.int .i64 zz.st, .int .i64 zz.fc, .slice X zz.data.length q] 42)) := (Below.refl _ w3).alloc (Nat.le_refl _) _
      have Z4 : Hid (Box (w3.alloc (.cells #[.int .i64 zz.st, .int .i64 zz.fc, .slice X zz.data.length q] 42)) w3.heap.size zz X q) := Box.new w3 zz X q
      have R4 := Lib.hid (Row.below (gave_row RX.out HZL.out).1 b4)
      have L4 := Lib.hid (L3.out.trans (b4.mono L3.out.size))
      refine hK.out _ _ (hcell _ (H3.out.below b4) (CBox.below C3.out b4)) (fun hHeld2 => ?_)
      clear hK K b4
      (try simp only [Act.put, List.setIfInBounds_toArray, List.set_cons_zero, List.set_cons_succ])
      (first | (refine Reg.take 23 (v := ?_) rfl (by kernel_rfl) (by kernel_rfl) (by kernel_rfl) (fun _ _ _ h => h) (Or.inl ⟨by rfl, ?_⟩) (by assumption) ?_; rotate_left; (focus ((intro W hSW); (try dsimp only at hSW); (try go_split_ands); go_simp; (try (with_reducible rfl)); done))) | (refine Reg.take 23 (v := undef) rfl (by kernel_rfl) (by kernel_rfl) (by kernel_rfl) (fun _ _ _ h => h) (Or.inr ⟨by rfl, rfl⟩) (by assumption) ?_))
      (try simp only [Act.put, List.setIfInBounds_toArray, List.set_cons_zero, List.set_cons_succ])
      (first | (refine Reg.take 24 (v := ?_) rfl (by kernel_rfl) (by kernel_rfl) (by kernel_rfl) (fun _ _ _ h => h) (Or.inl ⟨by rfl, ?_⟩) (by assumption) ?_; rotate_left; (focus ((intro W hSW); (try dsimp only at hSW); (try go_split_ands); go_simp; (try (with_reducible rfl)); done))) | (refine Reg.take 24 (v := undef) rfl (by kernel_rfl) (by kernel_rfl) (by kernel_rfl) (fun _ _ _ h => h) (Or.inr ⟨by rfl, rfl⟩) (by assumption) ?_))
      (try simp only [Act.put, List.setIfInBounds_toArray, List.set_cons_zero, List.set_cons_succ])
      refine wpAnyH_done (by kernel_rfl) ?_ _
      go_wp2_with fail
      go_meet
      exact ⟨rfl, L4.out⟩
    · go_simp
      have b3 : Below w2.heap.size w2 (w2.alloc (.cells #[.int .i64 0, .int .i64 0, .slice none 0 0] 42)) := (Below.refl _ w2).alloc (Nat.le_refl _) _
      have Y3 : Hid (Box (w2.alloc (.cells #[.int .i64 0, .int .i64 0, .slice none 0 0] 42)) w2.heap.size nilZ none 0) := Box.new w2 nilZ none 0
      have G3 : Hid (w1.heap.size ≤ w2.heap.size) := L2.out.size
      have H3 := Lib.hid (H2.out.below b3)
      have C3 := Lib.hid (CBox.below C2.out b3)
      have L3 := Lib.hid (L2.out.trans (b3.mono L2.out.size))
      refine hK.out _ _ (hcell _ H3.out C3.out) (fun hHeld2 => ?_)
      have hg2 : Hid (k.g < w2.heap.size ∧ k.q < w2.heap.size ∧ w.heap.size < w2.heap.size) := ⟨H2.out.g_lt, H2.out.q_lt, Cells.lt C2.out⟩
      clear hK K b3 H2 C2 L2
      (try simp only [Act.put, List.setIfInBounds_toArray, List.set_cons_zero, List.set_cons_succ])
      generalize w2.alloc (.cells #[.int .i64 0, .int .i64 0, .slice none 0 0] 42) = w3 at *
      generalize w2.heap.size = g2 at *
      refine Reg.step 16 rfl (by kernel_rfl) (by rfl) (fun K hK => ?_)
      go_simp
      refine (HC w3 (H3.out.data_at HV.out) ((RB.out.below L1.out).below L3.out)).out.mono ?_
      rintro e w4 ⟨X, q, rfl, hX, hb⟩
      unfold zv
      have R4 := Lib.hid (gave_row hX HZL.out).1
      have H4 := Lib.hid (H3.out.below hb)
      have C4 := Lib.hid (CBox.below C3.out hb)
      have L4 := Lib.hid (L3.out.trans (hb.mono L3.out.size))
      have Y4 := Lib.hid (Y3.out.below hb)
      clear hX hb H3 C3 L3 Y3
      refine hK.out _ _ (hcell _ H4.out C4.out) (fun hHeld2 => ?_)
      clear hK K
      (try simp only [Act.put, List.setIfInBounds_toArray, List.set_cons_zero, List.set_cons_succ])
      (first | (refine Reg.take 17 (v := ?_) rfl (by kernel_rfl) (by kernel_rfl) (by kernel_rfl) (fun _ _ _ h => h) (Or.inl ⟨by rfl, ?_⟩) (by assumption) ?_; rotate_left; (focus ((intro W hSW); (try dsimp only at hSW); (try go_split_ands); go_simp; (try (with_reducible rfl)); done))) | (refine Reg.take 17 (v := undef) rfl (by kernel_rfl) (by kernel_rfl) (by kernel_rfl) (fun _ _ _ h => h) (Or.inr ⟨by rfl, rfl⟩) (by assumption) ?_))
      (try simp only [Act.put, List.setIfInBounds_toArray, List.set_cons_zero, List.set_cons_succ])
      (first | (refine Reg.take 18 (v := ?_) rfl (by kernel_rfl) (by kernel_rfl) (by kernel_rfl) (fun _ _ _ h => h) (Or.inl ⟨by rfl, ?_⟩) (by assumption) ?_; rotate_left; (focus ((intro W hSW); (try dsimp only at hSW); (try go_split_ands); go_simp; (try (with_reducible rfl)); done))) | (refine Reg.take 18 (v := undef) rfl (by kernel_rfl) (by kernel_rfl) (by kernel_rfl) (fun _ _ _ h => h) (Or.inr ⟨by rfl, rfl⟩) (by assumption) ?_))
      (try simp only [Act.put, List.setIfInBounds_toArray, List.set_cons_zero, List.set_cons_succ])
      (first | (refine Reg.take 19 (v := ?_) rfl (by kernel_rfl) (by kernel_rfl) (by kernel_rfl) (fun _ _ _ h => h) (Or.inl ⟨by rfl, ?_⟩) (by assumption) ?_; rotate_left; (focus ((intro W hSW); (try dsimp only at hSW); (try go_split_ands); go_simp; (try (with_reducible rfl)); done))) | (refine Reg.take 19 (v := undef) rfl (by kernel_rfl) (by kernel_rfl) (by kernel_rfl) (fun _ _ _ h => h) (Or.inr ⟨by rfl, rfl⟩) (by assumption) ?_))
      (try simp only [Act.put, List.setIfInBounds_toArray, List.set_cons_zero, List.set_cons_succ])
      (first | (refine Reg.take 20 (v := ?_) rfl (by kernel_rfl) (by kernel_rfl) (by kernel_rfl) (fun _ _ _ h => h) (Or.inl ⟨by rfl, ?_⟩) (by assumption) ?_; rotate_left; (focus ((intro W hSW); (try dsimp only at hSW); (try go_split_ands); go_simp; (try (with_reducible rfl)); done))) | (refine Reg.take 20 (v := undef) rfl (by kernel_rfl) (by kernel_rfl) (by kernel_rfl) (fun _ _ _ h => h) (Or.inr ⟨by rfl, rfl⟩) (by assumption) ?_))
      (try simp only [Act.put, List.setIfInBounds_toArray, List.set_cons_zero, List.set_cons_succ])
      refine Reg.step 22 rfl (by kernel_rfl) (by rfl) (fun K hK => ?_)
      obtain ⟨f0, f1, f2⟩ := Y4.out.frozen
      obtain ⟨n0, n1, n2⟩ := Y4.out.cells
      go_simp
      have L5 := Lib.hid (below3 (g := g2) L4.out G3.out (.int .i64 zz.st) (.int .i64 zz.fc) (.slice X zz.data.length q))
      have Z5 := Lib.hid (Box.store Y4.out zz X q)
      have R5 := Lib.hid (Box.row3 Y4.out R4.out zz.st zz.fc X zz.data.length q)
      have H5 := Lib.hid (H1.out.below L5.out)
      have C5 := Lib.hid (CBox.below C1.out L5.out)
      clear n0 n1 n2 f0 f1 f2
      refine hK.out _ _ (hcell _ H5.out C5.out) (fun hHeld2 => ?_)
      clear hK K
      (try simp only [Act.put, List.setIfInBounds_toArray, List.set_cons_zero, List.set_cons_succ])
      (first | (refine Reg.take 23 (v := ?_) rfl (by kernel_rfl) (by kernel_rfl) (by kernel_rfl) (fun _ _ _ h => h) (Or.inl ⟨by rfl, ?_⟩) (by assumption) ?_; rotate_left; (focus ((intro W hSW); (try dsimp only at hSW); (try go_split_ands); go_simp; (try (with_reducible rfl)); done))) | (refine Reg.take 23 (v := undef) rfl (by kernel_rfl) (by kernel_rfl) (by kernel_rfl) (fun _ _ _ h => h) (Or.inr ⟨by rfl, rfl⟩) (by assumption) ?_))
      (try simp only [Act.put, List.setIfInBounds_toArray, List.set_cons_zero, List.set_cons_succ])
      (first | (refine Reg.take 24 (v := ?_) rfl (by kernel_rfl) (by kernel_rfl) (by kernel_rfl) (fun _ _ _ h => h) (Or.inl ⟨by rfl, ?_⟩) (by assumption) ?_; rotate_left; (focus ((intro W hSW); (try dsimp only at hSW); (try go_split_ands); go_simp; (try (with_reducible rfl)); done))) | (refine Reg.take 24 (v := undef) rfl (by kernel_rfl) (by kernel_rfl) (by kernel_rfl) (fun _ _ _ h => h) (Or.inr ⟨by rfl, rfl⟩) (by assumption) ?_))
      (try simp only [Act.put, List.setIfInBounds_toArray, List.set_cons_zero, List.set_cons_succ])
      refine wpAnyH_done (by kernel_rfl) ?_ _
      go_wp2_with fail
      go_meet
      exact ⟨rfl, L5.out⟩
  case rest =>
    obtain ⟨rfl, hP⟩ := hcut
    have H2 := Lib.hid (H1.out.below hP.out)
    have N2 := Lib.hid (EBox.below N1.out hP.out)
    have L2 := Lib.hid (L1.out.trans (hP.out.mono L1.out.size))
    have B2 := Lib.hid (But.of_below (q := k.q) L2.out)
    have C2 := Lib.hid (CBox.below C1.out hP.out)
    clear hP C1 H1 L1 N1 HC HZL1 zz
    generalize wc = w2 at *
    rcases e1 : (er == 0)
    · rw [e1, cond_false] at HPL
      have e2 : (er != 0) = true := by rw [bne, e1]; rfl
      obtain ⟨n0, n1, n2⟩ := N2.out.cells
      obtain ⟨f0, f1, f2⟩ := N2.out.frozen
      go_wp2_with fail
      refine bodyPost_ret_by (results_cell_row rfl _ _ (w.heap.size + 1) _ _ _ _ rfl (EBox.store N2.out er 0 none 0 0) Try.underlying38 rfl (by kernel_rfl)) rfl ?_
      rw [← HPL.out]
      exact acted_end H0.out H2.out N2.out (by omega) B2.out ⟨er, 0, []⟩ none 0 (Away.nil _ _) rfl rfl

    · rw [e1, cond_true] at HPL
      obtain rfl : er = 0 := beq_iff_eq.1 e1
      obtain ⟨y0, y1, y2, y3, y4, y5⟩ := CBox.cells C2.out
      go_wp2_with fail
      refine (HTC w2 H2.out).out.mono ?_
      rintro e w3 ⟨rfl, hb⟩
      have H3 := Lib.hid (H2.out.below hb)
      have N3 := Lib.hid (EBox.below N2.out hb)
      have L3 := Lib.hid (L2.out.trans (hb.mono L2.out.size))
      have B3 := Lib.hid (But.of_below (q := k.q) L3.out)
      have C3 := Lib.hid (CBox.below C2.out hb)
      clear hb H2 N2 L2 B2 C2 y0 y1 y2 y3 y4 y5 HTC
      rcases e3 : (ce == 0)
      · rw [e3, cond_false] at HPL
        have e4 : (ce != 0) = true := by rw [bne, e3]; rfl
        obtain ⟨n0, n1, n2⟩ := N3.out.cells
        obtain ⟨f0, f1, f2⟩ := N3.out.frozen
        go_wp2_with fail
        refine bodyPost_ret_by (results_cell_row rfl _ _ (w.heap.size + 1) _ _ _ _ rfl (EBox.store N3.out ce 0 none 0 0) Try.underlying38 rfl (by kernel_rfl)) rfl ?_
        rw [← HPL.out]
        exact acted_end H0.out H3.out N3.out (by omega) B3.out ⟨ce, 0, []⟩ none 0 (Away.nil _ _) rfl rfl

      · rw [e3, cond_true] at HPL
        have e4 : (ce != 0) = false := by rw [bne, e3]; rfl
        go_upto_region 7 with fail
        go_cut [10, 11] (fun s t wx => ∃ gz X q, s = .pointer (some ⟨gz, 0, none⟩) ∧ t = .int .i64 te ∧ Hid (Box wx gz zt X q ∧ Row cb wx X zt.data.length q zt.data ∧ Below w3.heap.size w3 wx))
        case first =>
          have HZL := HZL2
          generalize hzz : zt = zz at *
          clear hzz zt
          have HQ := H3
          have CQ := C3
          have LQ := L3
          clear H3 C3 L3
          generalize w3 = wq at *
          have H2 : Hid (Desk k xs wq.drew) := HQ.out.below (Below.refl _ wq).drew
          have C2 : Hid (CBox wq.drew w.heap.size x.c.d i x.c.epoch x.c.off x.c.n x.B x.c.b.length x.k) := CQ
          have L2 : Hid (Below wq.heap.size wq wq.drew) := (Below.refl _ wq).drew
          refine wp_region_held_drew (S := fun W => (W.cell? ⟨k.g, 0, none⟩ = some (.int .i64 k.cap) ∧ W.cell? ⟨k.g, 3, none⟩ = some (.slice (some ⟨k.q, k.o, none⟩) k.n k.c)) ∧ (W.cell? ⟨w.heap.size, 1, none⟩ = some (.int .i64 (i : Int)) ∧ W.cell? ⟨w.heap.size, 2, none⟩ = some (.int .i64 x.c.epoch) ∧ W.cell? ⟨w.heap.size, 3, none⟩ = some (.int .i64 x.c.off) ∧ W.cell? ⟨w.heap.size, 4, none⟩ = some (.int .i64 x.c.n) ∧ W.cell? ⟨w.heap.size, 5, none⟩ = some (.slice x.B x.c.b.length x.k)) ∧ (W.cell? ⟨k.q, k.o + i * 3, none⟩ = some (.int .i64 v.z.st) ∧ W.cell? ⟨k.q, k.o + i * 3 + 1, none⟩ = some (.int .i64 v.z.fc) ∧ W.cell? ⟨k.q, k.o + i * 3 + 2, none⟩ = some (.slice v.D v.z.data.length v.c)))
            (by kernel_rfl) (hcell _ H2.out C2.out) (fun hHeld => ?_)
          generalize wq.drew = w2 at *
          (first | (refine Reg.take 0 (v := ?_) rfl (by kernel_rfl) (by kernel_rfl) (by kernel_rfl) (fun _ _ _ h => h) (Or.inl ⟨by rfl, ?_⟩) (by assumption) ?_; rotate_left; (focus ((intro W hSW); (try dsimp only at hSW); (try go_split_ands); go_simp; (try (with_reducible rfl)); done))) | (refine Reg.take 0 (v := undef) rfl (by kernel_rfl) (by kernel_rfl) (by kernel_rfl) (fun _ _ _ h => h) (Or.inr ⟨by rfl, rfl⟩) (by assumption) ?_))
          (try simp only [Act.put, List.setIfInBounds_toArray, List.set_cons_zero, List.set_cons_succ])
          (first | (refine Reg.take 1 (v := ?_) rfl (by kernel_rfl) (by kernel_rfl) (by kernel_rfl) (fun _ _ _ h => h) (Or.inl ⟨by rfl, ?_⟩) (by assumption) ?_; rotate_left; (focus ((intro W hSW); (try dsimp only at hSW); (try go_split_ands); go_simp; (try (with_reducible rfl)); done))) | (refine Reg.take 1 (v := undef) rfl (by kernel_rfl) (by kernel_rfl) (by kernel_rfl) (fun _ _ _ h => h) (Or.inr ⟨by rfl, rfl⟩) (by assumption) ?_))
          (try simp only [Act.put, List.setIfInBounds_toArray, List.set_cons_zero, List.set_cons_succ])
          (first | (refine Reg.take 2 (v := ?_) rfl (by kernel_rfl) (by kernel_rfl) (by kernel_rfl) (fun _ _ _ h => h) (Or.inl ⟨by rfl, ?_⟩) (by assumption) ?_; rotate_left; (focus ((intro W hSW); (try dsimp only at hSW); (try go_split_ands); go_simp; (try (with_reducible rfl)); done))) | (refine Reg.take 2 (v := undef) rfl (by kernel_rfl) (by kernel_rfl) (by kernel_rfl) (fun _ _ _ h => h) (Or.inr ⟨by rfl, rfl⟩) (by assumption) ?_))
          (try simp only [Act.put, List.setIfInBounds_toArray, List.set_cons_zero, List.set_cons_succ])
          (first | (refine Reg.take 3 (v := ?_) rfl (by kernel_rfl) (by kernel_rfl) (by kernel_rfl) (fun _ _ _ h => h) (Or.inl ⟨by rfl, ?_⟩) (by assumption) ?_; rotate_left; (focus ((intro W hSW); (try dsimp only at hSW); (try go_split_ands); go_simp; (try (with_reducible rfl)); done))) | (refine Reg.take 3 (v := undef) rfl (by kernel_rfl) (by kernel_rfl) (by kernel_rfl) (fun _ _ _ h => h) (Or.inr ⟨by rfl, rfl⟩) (by assumption) ?_))
          (try simp only [Act.put, List.setIfInBounds_toArray, List.set_cons_zero, List.set_cons_succ])
          (first | (refine Reg.take 4 (v := ?_) rfl (by kernel_rfl) (by kernel_rfl) (by kernel_rfl) (fun _ _ _ h => h) (Or.inl ⟨by rfl, ?_⟩) (by assumption) ?_; rotate_left; (focus ((intro W hSW); (try dsimp only at hSW); (try go_split_ands); go_simp; (try (with_reducible rfl)); done))) | (refine Reg.take 4 (v := undef) rfl (by kernel_rfl) (by kernel_rfl) (by kernel_rfl) (fun _ _ _ h => h) (Or.inr ⟨by rfl, rfl⟩) (by assumption) ?_))
          (try simp only [Act.put, List.setIfInBounds_toArray, List.set_cons_zero, List.set_cons_succ])
          (first | (refine Reg.take 5 (v := ?_) rfl (by kernel_rfl) (by kernel_rfl) (by kernel_rfl) (fun _ _ _ h => h) (Or.inl ⟨by rfl, ?_⟩) (by assumption) ?_; rotate_left; (focus ((intro W hSW); (try dsimp only at hSW); (try go_split_ands); go_simp; (try (with_reducible rfl)); done))) | (refine Reg.take 5 (v := undef) rfl (by kernel_rfl) (by kernel_rfl) (by kernel_rfl) (fun _ _ _ h => h) (Or.inr ⟨by rfl, rfl⟩) (by assumption) ?_))
          (try simp only [Act.put, List.setIfInBounds_toArray, List.set_cons_zero, List.set_cons_succ])
          (first | (refine Reg.take 6 (v := ?_) rfl (by kernel_rfl) (by kernel_rfl) (by kernel_rfl) (fun _ _ _ h => h) (Or.inl ⟨by rfl, ?_⟩) (by assumption) ?_; rotate_left; (focus ((intro W hSW); (try dsimp only at hSW); (try go_split_ands); go_simp; (try (with_reducible rfl)); done))) | (refine Reg.take 6 (v := undef) rfl (by kernel_rfl) (by kernel_rfl) (by kernel_rfl) (fun _ _ _ h => h) (Or.inr ⟨by rfl, rfl⟩) (by assumption) ?_))
          (try simp only [Act.put, List.setIfInBounds_toArray, List.set_cons_zero, List.set_cons_succ])
          (first | (refine Reg.take 7 (v := ?_) rfl (by kernel_rfl) (by kernel_rfl) (by kernel_rfl) (fun _ _ _ h => h) (Or.inl ⟨by rfl, ?_⟩) (by assumption) ?_; rotate_left; (focus ((intro W hSW); (try dsimp only at hSW); (try go_split_ands); go_simp; (try (with_reducible rfl)); done))) | (refine Reg.take 7 (v := undef) rfl (by kernel_rfl) (by kernel_rfl) (by kernel_rfl) (fun _ _ _ h => h) (Or.inr ⟨by rfl, rfl⟩) (by assumption) ?_))
          (try simp only [Act.put, List.setIfInBounds_toArray, List.set_cons_zero, List.set_cons_succ])
          (first | (refine Reg.take 8 (v := ?_) rfl (by kernel_rfl) (by kernel_rfl) (by kernel_rfl) (fun _ _ _ h => h) (Or.inl ⟨by rfl, ?_⟩) (by assumption) ?_; rotate_left; (focus ((intro W hSW); (try dsimp only at hSW); (try go_split_ands); go_simp; (try (with_reducible rfl)); done))) | (refine Reg.take 8 (v := undef) rfl (by kernel_rfl) (by kernel_rfl) (by kernel_rfl) (fun _ _ _ h => h) (Or.inr ⟨by rfl, rfl⟩) (by assumption) ?_))
          (try simp only [Act.put, List.setIfInBounds_toArray, List.set_cons_zero, List.set_cons_succ])
          (first | (refine Reg.take 9 (v := ?_) rfl (by kernel_rfl) (by kernel_rfl) (by kernel_rfl) (fun _ _ _ h => h) (Or.inl ⟨by rfl, ?_⟩) (by assumption) ?_; rotate_left; (focus ((intro W hSW); (try dsimp only at hSW); (try go_split_ands); go_simp; (try (with_reducible rfl)); done))) | (refine Reg.take 9 (v := undef) rfl (by kernel_rfl) (by kernel_rfl) (by kernel_rfl) (fun _ _ _ h => h) (Or.inr ⟨by rfl, rfl⟩) (by assumption) ?_))
          (try simp only [Act.put, List.setIfInBounds_toArray, List.set_cons_zero, List.set_cons_succ])
          (first | (refine Reg.take 10 (v := ?_) rfl (by kernel_rfl) (by kernel_rfl) (by kernel_rfl) (fun _ _ _ h => h) (Or.inl ⟨by rfl, ?_⟩) (by assumption) ?_; rotate_left; (focus ((intro W hSW); (try dsimp only at hSW); (try go_split_ands); go_simp; (try (with_reducible rfl)); done))) | (refine Reg.take 10 (v := undef) rfl (by kernel_rfl) (by kernel_rfl) (by kernel_rfl) (fun _ _ _ h => h) (Or.inr ⟨by rfl, rfl⟩) (by assumption) ?_))
          (try simp only [Act.put, List.setIfInBounds_toArray, List.set_cons_zero, List.set_cons_succ])
          (first | (refine Reg.take 11 (v := ?_) rfl (by kernel_rfl) (by kernel_rfl) (by kernel_rfl) (fun _ _ _ h => h) (Or.inl ⟨by rfl, ?_⟩) (by assumption) ?_; rotate_left; (focus ((intro W hSW); (try dsimp only at hSW); (try go_split_ands); go_simp; (try (with_reducible rfl)); done))) | (refine Reg.take 11 (v := undef) rfl (by kernel_rfl) (by kernel_rfl) (by kernel_rfl) (fun _ _ _ h => h) (Or.inr ⟨by rfl, rfl⟩) (by assumption) ?_))
          (try simp only [Act.put, List.setIfInBounds_toArray, List.set_cons_zero, List.set_cons_succ])
          (first | (refine Reg.take 12 (v := ?_) rfl (by kernel_rfl) (by kernel_rfl) (by kernel_rfl) (fun _ _ _ h => h) (Or.inl ⟨by rfl, ?_⟩) (by assumption) ?_; rotate_left; (focus ((intro W hSW); (try dsimp only at hSW); (try go_split_ands); go_simp; (try (with_reducible rfl)); done))) | (refine Reg.take 12 (v := undef) rfl (by kernel_rfl) (by kernel_rfl) (by kernel_rfl) (fun _ _ _ h => h) (Or.inr ⟨by rfl, rfl⟩) (by assumption) ?_))
          (try simp only [Act.put, List.setIfInBounds_toArray, List.set_cons_zero, List.set_cons_succ])
          (first | (refine Reg.take 13 (v := ?_) rfl (by kernel_rfl) (by kernel_rfl) (by kernel_rfl) (fun _ _ _ h => h) (Or.inl ⟨by rfl, ?_⟩) (by assumption) ?_; rotate_left; (focus ((intro W hSW); (try dsimp only at hSW); (try go_split_ands); go_simp; (try (with_reducible rfl)); done))) | (refine Reg.take 13 (v := undef) rfl (by kernel_rfl) (by kernel_rfl) (by kernel_rfl) (fun _ _ _ h => h) (Or.inr ⟨by rfl, rfl⟩) (by assumption) ?_))
          (try simp only [Act.put, List.setIfInBounds_toArray, List.set_cons_zero, List.set_cons_succ])
          (first | (refine Reg.take 14 (v := ?_) rfl (by kernel_rfl) (by kernel_rfl) (by kernel_rfl) (fun _ _ _ h => h) (Or.inl ⟨by rfl, ?_⟩) (by assumption) ?_; rotate_left; (focus ((intro W hSW); (try dsimp only at hSW); (try go_split_ands); go_simp; (try (with_reducible rfl)); done))) | (refine Reg.take 14 (v := undef) rfl (by kernel_rfl) (by kernel_rfl) (by kernel_rfl) (fun _ _ _ h => h) (Or.inr ⟨by rfl, rfl⟩) (by assumption) ?_))
          (try simp only [Act.put, List.setIfInBounds_toArray, List.set_cons_zero, List.set_cons_succ])
          (first | (refine Reg.take 15 (v := ?_) rfl (by kernel_rfl) (by kernel_rfl) (by kernel_rfl) (fun _ _ _ h => h) (Or.inl ⟨by rfl, ?_⟩) (by assumption) ?_; rotate_left; (focus ((intro W hSW); (try dsimp only at hSW); (try go_split_ands); go_simp; (try (with_reducible rfl)); done))) | (refine Reg.take 15 (v := undef) rfl (by kernel_rfl) (by kernel_rfl) (by kernel_rfl) (fun _ _ _ h => h) (Or.inr ⟨by rfl, rfl⟩) (by assumption) ?_))
          (try simp only [Act.put, List.setIfInBounds_toArray, List.set_cons_zero, List.set_cons_succ])
          (first | (refine Reg.take 16 (v := ?_) rfl (by kernel_rfl) (by kernel_rfl) (by kernel_rfl) (fun _ _ _ h => h) (Or.inl ⟨by rfl, ?_⟩) (by assumption) ?_; rotate_left; (focus ((intro W hSW); (try dsimp only at hSW); (try go_split_ands); go_simp; (try (with_reducible rfl)); done))) | (refine Reg.take 16 (v := undef) rfl (by kernel_rfl) (by kernel_rfl) (by kernel_rfl) (fun _ _ _ h => h) (Or.inr ⟨by rfl, rfl⟩) (by assumption) ?_))
          (try simp only [Act.put, List.setIfInBounds_toArray, List.set_cons_zero, List.set_cons_succ])
          (first | (refine Reg.take 17 (v := ?_) rfl (by kernel_rfl) (by kernel_rfl) (by kernel_rfl) (fun _ _ _ h => h) (Or.inl ⟨by rfl, ?_⟩) (by assumption) ?_; rotate_left; (focus ((intro W hSW); (try dsimp only at hSW); (try go_split_ands); go_simp; (try (with_reducible rfl)); done))) | (refine Reg.take 17 (v := undef) rfl (by kernel_rfl) (by kernel_rfl) (by kernel_rfl) (fun _ _ _ h => h) (Or.inr ⟨by rfl, rfl⟩) (by assumption) ?_))
          (try simp only [Act.put, List.setIfInBounds_toArray, List.set_cons_zero, List.set_cons_succ])
          refine Reg.step2 18 22 rfl rfl (by kernel_rfl) (by rfl) (by rfl) (fun K hK => ?_) (fun K hK => ?_)
          · go_simp
            refine (HT w2 (H2.out.data_at HV.out) ((RB.out.below LQ.out).below L2.out)).out.mono ?_
            rintro e w3 ⟨X, q, rfl, hX, hb⟩
            unfold zv
            have RX := Lib.hid hX
            have H3 := Lib.hid (H2.out.below hb)
            have C3 := Lib.hid (CBox.below C2.out hb)
            have L3 := Lib.hid (L2.out.trans (hb.mono L2.out.size))
            clear hX hb H2 C2 L2
            refine hK.out _ _ (hcell _ H3.out C3.out) (fun hHeld2 => ?_)
            clear hK K
            (try simp only [Act.put, List.setIfInBounds_toArray, List.set_cons_zero, List.set_cons_succ])
            (first | (refine Reg.take 19 (v := ?_) rfl (by kernel_rfl) (by kernel_rfl) (by kernel_rfl) (fun _ _ _ h => h) (Or.inl ⟨by rfl, ?_⟩) (by assumption) ?_; rotate_left; (focus ((intro W hSW); (try dsimp only at hSW); (try go_split_ands); go_simp; (try (with_reducible rfl)); done))) | (refine Reg.take 19 (v := undef) rfl (by kernel_rfl) (by kernel_rfl) (by kernel_rfl) (fun _ _ _ h => h) (Or.inr ⟨by rfl, rfl⟩) (by assumption) ?_))
            (try simp only [Act.put, List.setIfInBounds_toArray, List.set_cons_zero, List.set_cons_succ])
            (first | (refine Reg.take 20 (v := ?_) rfl (by kernel_rfl) (by kernel_rfl) (by kernel_rfl) (fun _ _ _ h => h) (Or.inl ⟨by rfl, ?_⟩) (by assumption) ?_; rotate_left; (focus ((intro W hSW); (try dsimp only at hSW); (try go_split_ands); go_simp; (try (with_reducible rfl)); done))) | (refine Reg.take 20 (v := undef) rfl (by kernel_rfl) (by kernel_rfl) (by kernel_rfl) (fun _ _ _ h => h) (Or.inr ⟨by rfl, rfl⟩) (by assumption) ?_))
            (try simp only [Act.put, List.setIfInBounds_toArray, List.set_cons_zero, List.set_cons_succ])
            (first | (refine Reg.take 21 (v := ?_) rfl (by kernel_rfl) (by kernel_rfl) (by kernel_rfl) (fun _ _ _ h => h) (Or.inl ⟨by rfl, ?_⟩) (by assumption) ?_; rotate_left; (focus ((intro W hSW); (try dsimp only at hSW); (try go_split_ands); go_simp; (try (with_reducible rfl)); done))) | (refine Reg.take 21 (v := undef) rfl (by kernel_rfl) (by kernel_rfl) (by kernel_rfl) (fun _ _ _ h => h) (Or.inr ⟨by rfl, rfl⟩) (by assumption) ?_))
            (try simp only [Act.put, List.setIfInBounds_toArray, List.set_cons_zero, List.set_cons_succ])
            refine Reg.step 22 rfl (by kernel_rfl) (by rfl) (fun K hK => ?_)
            go_simp
            have b4 : Below w3.heap.size w3 (w3.alloc (.cells #[.int .i64 0, .int .i64 0, .slice none 0 0] 42)) := (Below.refl _ w3).alloc (Nat.le_refl _) _
            refine hK.out _ _ (hcell _ (H3.out.below b4) (CBox.below C3.out b4)) (fun hHeld2 => ?_)
            clear hK K b4
            (try simp only [Act.put, List.setIfInBounds_toArray, List.set_cons_zero, List.set_cons_succ])
            refine Reg.step 23 rfl (by kernel_rfl) (by rfl) (fun K hK => ?_)
            go_simp
            have b4 : Below w3.heap.size w3 (w3.alloc (.cells #[.int .i64 zz.st, .int .i64 zz.fc, .slice X zz.data.length q] 42)) := (Below.refl _ w3).alloc (Nat.le_refl _) _
            have Z4 : Hid (Box (w3.alloc (.cells #[.int .i64 zz.st, .int .i64 zz.fc, .slice X zz.data.length q] 42)) w3.heap.size zz X q) := Box.new w3 zz X q
            have R4 := Lib.hid (Row.below (gave_row RX.out HZL.out).1 b4)
            have L4 := Lib.hid (L3.out.trans (b4.mono L3.out.size))
            refine hK.out _ _ (hcell _ (H3.out.below b4) (CBox.below C3.out b4)) (fun hHeld2 => ?_)
            clear hK K b4
            (try simp only [Act.put, List.setIfInBounds_toArray, List.set_cons_zero, List.set_cons_succ])
            (first | (refine Reg.take 24 (v := ?_) rfl (by kernel_rfl) (by kernel_rfl) (by kernel_rfl) (fun _ _ _ h => h) (Or.inl ⟨by rfl, ?_⟩) (by assumption) ?_; rotate_left; (focus ((intro W hSW); (try dsimp only at hSW); (try go_split_ands); go_simp; (try (with_reducible rfl)); done))) | (refine Reg.take 24 (v := undef) rfl (by kernel_rfl) (by kernel_rfl) (by kernel_rfl) (fun _ _ _ h => h) (Or.inr ⟨by rfl, rfl⟩) (by assumption) ?_))
            (try simp only [Act.put, List.setIfInBounds_toArray, List.set_cons_zero, List.set_cons_succ])
            refine wpAnyH_done (by kernel_rfl) ?_ _
            go_wp2_with fail
            go_meet
            exact ⟨_, X, q, rfl, rfl, Z4.out, R4.out, L4.out⟩
          · go_simp
            have b3 : Below w2.heap.size w2 (w2.alloc (.cells #[.int .i64 0, .int .i64 0, .slice none 0 0] 42)) := (Below.refl _ w2).alloc (Nat.le_refl _) _
            have Y3 : Hid (Box (w2.alloc (.cells #[.int .i64 0, .int .i64 0, .slice none 0 0] 42)) w2.heap.size nilZ none 0) := Box.new w2 nilZ none 0
            have G3 : Hid (wq.heap.size ≤ w2.heap.size) := L2.out.size
            have H3 := Lib.hid (H2.out.below b3)
            have C3 := Lib.hid (CBox.below C2.out b3)
            have L3 := Lib.hid (L2.out.trans (b3.mono L2.out.size))
            refine hK.out _ _ (hcell _ H3.out C3.out) (fun hHeld2 => ?_)
            have hg2 : Hid (k.g < w2.heap.size ∧ k.q < w2.heap.size ∧ w.heap.size < w2.heap.size) := ⟨H2.out.g_lt, H2.out.q_lt, Cells.lt C2.out⟩
            clear hK K b3 H2 C2 L2
            (try simp only [Act.put, List.setIfInBounds_toArray, List.set_cons_zero, List.set_cons_succ])
            generalize w2.alloc (.cells #[.int .i64 0, .int .i64 0, .slice none 0 0] 42) = w3 at *
            generalize w2.heap.size = g2 at *
            refine Reg.step 18 rfl (by kernel_rfl) (by rfl) (fun K hK => ?_)
            go_simp
            refine (HT w3 (H3.out.data_at HV.out) ((RB.out.below LQ.out).below L3.out)).out.mono ?_
            rintro e w4 ⟨X, q, rfl, hX, hb⟩
            unfold zv
            have R4 := Lib.hid (gave_row hX HZL.out).1
            have H4 := Lib.hid (H3.out.below hb)
            have C4 := Lib.hid (CBox.below C3.out hb)
            have L4 := Lib.hid (L3.out.trans (hb.mono L3.out.size))
            have Y4 := Lib.hid (Y3.out.below hb)
            clear hX hb H3 C3 L3 Y3
            refine hK.out _ _ (hcell _ H4.out C4.out) (fun hHeld2 => ?_)
            clear hK K
            (try simp only [Act.put, List.setIfInBounds_toArray, List.set_cons_zero, List.set_cons_succ])
            (first | (refine Reg.take 19 (v := ?_) rfl (by kernel_rfl) (by kernel_rfl) (by kernel_rfl) (fun _ _ _ h => h) (Or.inl ⟨by rfl, ?_⟩) (by assumption) ?_; rotate_left; (focus ((intro W hSW); (try dsimp only at hSW); (try go_split_ands); go_simp; (try (with_reducible rfl)); done))) | (refine Reg.take 19 (v := undef) rfl (by kernel_rfl) (by kernel_rfl) (by kernel_rfl) (fun _ _ _ h => h) (Or.inr ⟨by rfl, rfl⟩) (by assumption) ?_))
            (try simp only [Act.put, List.setIfInBounds_toArray, List.set_cons_zero, List.set_cons_succ])
            (first | (refine Reg.take 20 (v := ?_) rfl (by kernel_rfl) (by kernel_rfl) (by kernel_rfl) (fun _ _ _ h => h) (Or.inl ⟨by rfl, ?_⟩) (by assumption) ?_; rotate_left; (focus ((intro W hSW); (try dsimp only at hSW); (try go_split_ands); go_simp; (try (with_reducible rfl)); done))) | (refine Reg.take 20 (v := undef) rfl (by kernel_rfl) (by kernel_rfl) (by kernel_rfl) (fun _ _ _ h => h) (Or.inr ⟨by rfl, rfl⟩) (by assumption) ?_))
            (try simp only [Act.put, List.setIfInBounds_toArray, List.set_cons_zero, List.set_cons_succ])
            (first | (refine Reg.take 21 (v := ?_) rfl (by kernel_rfl) (by kernel_rfl) (by kernel_rfl) (fun _ _ _ h => h) (Or.inl ⟨by rfl, ?_⟩) (by assumption) ?_; rotate_left; (focus ((intro W hSW); (try dsimp only at hSW); (try go_split_ands); go_simp; (try (with_reducible rfl)); done))) | (refine Reg.take 21 (v := undef) rfl (by kernel_rfl) (by kernel_rfl) (by kernel_rfl) (fun _ _ _ h => h) (Or.inr ⟨by rfl, rfl⟩) (by assumption) ?_))
            (try simp only [Act.put, List.setIfInBounds_toArray, List.set_cons_zero, List.set_cons_succ])
            refine Reg.step 23 rfl (by kernel_rfl) (by rfl) (fun K hK => ?_)
            obtain ⟨f0, f1, f2⟩ := Y4.out.frozen
            obtain ⟨n0, n1, n2⟩ := Y4.out.cells
            go_simp
            have L5 := Lib.hid (below3 (g := g2) L4.out G3.out (.int .i64 zz.st) (.int .i64 zz.fc) (.slice X zz.data.length q))
            have Z5 := Lib.hid (Box.store Y4.out zz X q)
            have R5 := Lib.hid (Box.row3 Y4.out R4.out zz.st zz.fc X zz.data.length q)
            have H5 := Lib.hid (HQ.out.below L5.out)
            have C5 := Lib.hid (CBox.below CQ.out L5.out)
            clear n0 n1 n2 f0 f1 f2
            refine hK.out _ _ (hcell _ H5.out C5.out) (fun hHeld2 => ?_)
            clear hK K
            (try simp only [Act.put, List.setIfInBounds_toArray, List.set_cons_zero, List.set_cons_succ])
            (first | (refine Reg.take 24 (v := ?_) rfl (by kernel_rfl) (by kernel_rfl) (by kernel_rfl) (fun _ _ _ h => h) (Or.inl ⟨by rfl, ?_⟩) (by assumption) ?_; rotate_left; (focus ((intro W hSW); (try dsimp only at hSW); (try go_split_ands); go_simp; (try (with_reducible rfl)); done))) | (refine Reg.take 24 (v := undef) rfl (by kernel_rfl) (by kernel_rfl) (by kernel_rfl) (fun _ _ _ h => h) (Or.inr ⟨by rfl, rfl⟩) (by assumption) ?_))
            (try simp only [Act.put, List.setIfInBounds_toArray, List.set_cons_zero, List.set_cons_succ])
            refine wpAnyH_done (by kernel_rfl) ?_ _
            go_wp2_with fail
            go_meet
            exact ⟨_, X, q, rfl, rfl, Z5.out, R5.out, L5.out⟩
        case rest =>
          obtain ⟨gz, X, q, rfl, rfl, hP⟩ := hcut
          have Z4 := Lib.hid hP.out.1
          have R4 := Lib.hid hP.out.2.1
          have H4 := Lib.hid (H3.out.below hP.out.2.2)
          have N4 := Lib.hid (EBox.below N3.out hP.out.2.2)
          have L4 := Lib.hid (L3.out.trans (hP.out.2.2.mono L3.out.size))
          have B4 := Lib.hid (But.of_below (q := k.q) L4.out)
          have C4 := Lib.hid (CBox.below C3.out hP.out.2.2)
          clear hP C3 H3 L3 N3 B3 hcell HT
          generalize wc = w4 at *
          obtain ⟨c0, c1, c2⟩ := Z4.out.cells
          obtain ⟨y0, y1, y2, y3, y4, y5⟩ := CBox.cells C4.out
          rcases e5 : (te == 0)
          · rw [e5, cond_false] at HPL
            have e6 : (te != 0) = true := by rw [bne, e5]; rfl
            obtain ⟨n0, n1, n2⟩ := N4.out.cells
            obtain ⟨f0, f1, f2⟩ := N4.out.frozen
            go_wp2_with fail
            refine bodyPost_ret_by (results_cell_row rfl _ _ (w.heap.size + 1) _ _ _ _ rfl (EBox.store N4.out te 0 none 0 0) Try.underlying38 rfl (by kernel_rfl)) rfl ?_
            rw [← HPL.out]
            exact acted_end H0.out H4.out N4.out (by omega) B4.out ⟨te, 0, []⟩ none 0 (Away.nil _ _) rfl rfl

          · rw [e5, cond_true] at HPL
            obtain rfl : te = 0 := beq_iff_eq.1 e5
            rcases e7 : (x.c.n == 0)
            · rw [e7, cond_false] at HPL
              go_wp2_with fail
              refine (HP w4 zt X q H4.out R4.out).out.mono ?_
              rintro e w5 ⟨xs', rfl, hD, hz, hB⟩
              have N5 := Lib.hid (EBox.but N4.out hB (by have := H0.out.q_lt; omega))
              have D5 := Lib.hid hD
              have B5 := Lib.hid (But.trans B4.out hB)
              have M5 := Lib.hid hz
              clear hB hD hz c0 c1 c2 y0 y1 y2 y3 y4 y5 HP
              obtain ⟨n0, n1, n2⟩ := N5.out.cells
              obtain ⟨f0, f1, f2⟩ := N5.out.frozen
              go_wp2_with fail
              refine bodyPost_ret_by (results_cell_row rfl _ _ (w.heap.size + 1) _ _ _ _ rfl (EBox.store N5.out (putO k.op k.ac (xs.map Zv.z) i zt).2 0 none 0 0) Try.underlying38 rfl (by kernel_rfl)) rfl ?_
              rw [← HPL.out]
              exact acted_end H0.out D5.out N5.out (by omega) B5.out ⟨(putO k.op k.ac (xs.map Zv.z) i zt).2, 0, []⟩ none 0 (Away.nil _ _) M5.out rfl

            · rw [e7, cond_true] at HPL
              obtain ⟨n0, n1, n2⟩ := N4.out.cells
              obtain ⟨f0, f1, f2⟩ := N4.out.frozen
              go_wp2_with fail
              refine bodyPost_ret_by (results_cell_row rfl _ _ (w.heap.size + 1) _ _ _ _ rfl (EBox.store N4.out 0 0 none 0 0) Try.underlying38 rfl (by kernel_rfl)) rfl ?_
              rw [← HPL.out]
              exact acted_end H0.out H4.out N4.out (by omega) B4.out ⟨0, 0, []⟩ none 0 (Away.nil _ _) rfl rfl

end Zns
end Go.Proofs.Ytbmblgjilmgkeaa
