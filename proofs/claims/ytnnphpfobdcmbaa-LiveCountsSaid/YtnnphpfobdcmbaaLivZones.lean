/-
  WALKS: live's counts, its questions of zones, Free, Waste.
-/
import Derived.Test.YtnnphpfobdcmbaaLivChoose
namespace Go.Proofs.Ytnnphpfobdcmbaa
open Go.RowKit Mem Ext Zon Zns
namespace Liv

/-- Whether a device and a map may be. -/
def needB (d : Dx) (l : List Ext.Ex) : Bool := okD d.p && okE l
theorem okD_n {d : Dx} {w : World} (h : DevAt w d) (hk : okD d.p = true) : 1 ≤ d.n ∧ d.n ≤ 64 ∧ d.cap ≤ 65536 := by
  have := bounds_parts.1 ((okD_dx h).1 hk).1
  omega
theorem okD_len {d : Dx} {w : World} (h : DevAt w d) (hk : okD d.p = true) : ∀ x ∈ d.xs, x.z.data.length ≤ 65536 := fun x hx => by
  have h1 := ok_parts (((okD_dx h).1 hk).2.1 x hx)
  have h2 : x.z.len = (x.z.data.length : Int) := rfl
  omega
theorem count_n {n : Nat} {l : List Ext.Ex} (h : n ≤ 64) : countB (n : Int) l = okE l := by
  unfold countB
  rw [decide_eq_false (show ¬ (n : Int) < 0 by omega), decide_eq_false (show ¬ (64 : Int) < n by omega)]
  rfl
set_option maxRecDepth 100000 in
set_option maxHeartbeats 3200000 in
theorem counts_any {d : Dx} {w : World} (h : DevAt w d) {B : Option Addr} {m e : Nat} {l : List Ext.Ex} (hl : RowL w B m e l) (hs : SmallN l) :
    Calls Try.prog 32 #[dxv d, .slice B m e] w (GaveN w (bif needB d l then cnts d.n l else []) (Zon.errOf (needB d l))) := by
  have HK := fun w (h : DevAt w d) => Lib.hid (check_dev h)
  have HN := Lib.hid (okD_n h)
  have HC0 := fun w (h : RowL w B m e l) (hb : countB (d.n : Int) l = false) => Lib.hid (count_bad h hs (d.n : Int) hb)
  have HC1 := fun w (h : RowL w B m e l) (hb : countB (d.n : Int) l = true) => Lib.hid (count_ok h hs d.n hb)
  have HD := Lib.hid h
  have HL := Lib.hid hl
  have hbig := h.row.big
  unfold needB
  generalize hok : okD d.p = ok at *
  obtain ⟨cap, op, ac, A, n, c, xs⟩ := d
  have L1 := Lib.hid ((Below.refl w.heap.size w).alloc (Nat.le_refl _) (.cells #[.int .i64 cap, .int .i64 op, .int .i64 ac, .slice A n c] 38))
  have B1 := Lib.hid (DBox.new w ⟨cap, op, ac, A, n, c, xs⟩)
  unfold dxv at *
  dsimp only at *
  clear h hl hs hok
  rcases ok with _ | _
  · go_enter Try.func32, Try.ntmps32
    go_upto_region 1 with fail
    generalize w.alloc (.cells #[.int .i64 cap, .int .i64 op, .int .i64 ac, .slice A n c] 38) = w1 at *
    obtain ⟨m0, m1, m2, m3⟩ := B1.out.cells
    dsimp only at m0 m1 m2 m3
    go_wp2_with (go_at_call 38; refine (HK w1 (HD.out.below L1.out)).out.mono ?_; rintro e w2 ⟨rfl, hb⟩; have L2 := Lib.hid (L1.out.trans (hb.mono L1.out.size)); have er : Zon.errOf false = 1 := rfl; rw [er]; clear hb)
    go_ret2
    exact ⟨⟨_, _, _, rfl, Row.nil _ _, fun _ _ e => by cases e⟩, L2.out⟩
  · have hn64 := (HN.out rfl).2.1
    rw [count_n hn64] at HC0 HC1
    rcases hb : okE l
    · rw [hb] at HC0
      have HC2 := fun w h => HC0 w h rfl
      clear HC1 HC0 hb
      go_enter Try.func32, Try.ntmps32
      go_upto_region 1 with fail
      generalize w.alloc (.cells #[.int .i64 cap, .int .i64 op, .int .i64 ac, .slice A n c] 38) = w1 at *
      obtain ⟨m0, m1, m2, m3⟩ := B1.out.cells
      dsimp only at m0 m1 m2 m3
      go_wp2_with (first | (go_at_call 38; refine (HK w1 (HD.out.below L1.out)).out.mono ?_; rintro e w2 ⟨rfl, hb⟩; have L2 := Lib.hid (L1.out.trans (hb.mono L1.out.size)); have B2 := Lib.hid (Ext.Cells.below B1.out hb); have er : Zon.errOf true = 0 := rfl; rw [er]; clear hb; obtain ⟨q0, q1, q2, q3⟩ := DBox.cells B2.out; dsimp only at q0 q1 q2 q3) | (go_at_call 10; refine (HC2 w2 (HL.out.below L2.out)).out.mono ?_; rintro e w3 ⟨⟨X, i, f, rfl, hr, hq⟩, hb⟩; have L3 := Lib.hid (L2.out.trans (hb.mono L2.out.size)); have R3 := Lib.hid hr; have Q3 := Lib.hid (fun q o (h : X = some ⟨q, o, none⟩) => Nat.le_trans L2.out.size (hq q o h)); clear hb hr hq) | fail)
      go_ret2
      exact ⟨⟨_, _, _, rfl, R3.out, Q3.out⟩, L3.out⟩
    · rw [hb] at HC1
      have HC2 := fun w h => HC1 w h rfl
      clear HC0 HC1 hb
      go_enter Try.func32, Try.ntmps32
      go_upto_region 1 with fail
      generalize w.alloc (.cells #[.int .i64 cap, .int .i64 op, .int .i64 ac, .slice A n c] 38) = w1 at *
      obtain ⟨m0, m1, m2, m3⟩ := B1.out.cells
      dsimp only at m0 m1 m2 m3
      go_wp2_with (first | (go_at_call 38; refine (HK w1 (HD.out.below L1.out)).out.mono ?_; rintro e w2 ⟨rfl, hb⟩; have L2 := Lib.hid (L1.out.trans (hb.mono L1.out.size)); have B2 := Lib.hid (Ext.Cells.below B1.out hb); have er : Zon.errOf true = 0 := rfl; rw [er]; clear hb; obtain ⟨q0, q1, q2, q3⟩ := DBox.cells B2.out; dsimp only at q0 q1 q2 q3) | (go_at_call 10; refine (HC2 w2 (HL.out.below L2.out)).out.mono ?_; rintro e w3 ⟨⟨X, i, f, rfl, hr, hq⟩, hb⟩; have L3 := Lib.hid (L2.out.trans (hb.mono L2.out.size)); have R3 := Lib.hid hr; have Q3 := Lib.hid (fun q o (h : X = some ⟨q, o, none⟩) => Nat.le_trans L2.out.size (hq q o h)); clear hb hr hq) | fail)
      go_ret2
      exact ⟨⟨_, _, _, rfl, R3.out, Q3.out⟩, L3.out⟩

/-- Whether a zone is Empty. -/
def emptyB (zs : List Zn) (i : Nat) : Bool := (atI zs i).st == 0
/-- Whether a zone is Full, and has fewer blocks in the map than were appended. -/
def fullB (zs : List Zn) (l : List Ext.Ex) (i : Nat) : Bool := (atI zs i).st == 4 && decide (cntZ (i : Int) l < (wholeP (atI zs i) : Nat))
set_option maxRecDepth 100000 in
set_option maxHeartbeats 3200000 in
theorem free1_any {d : Dx} {w : World} {g : Nat} (h : DevAt w d) (hn : d.n ≤ 64) (hg : DBox w g d) : PredI d.n 39 #[.pointer (some ⟨g, 0, none⟩)] (emptyB (d.xs.map Zv.z)) w := by
  intro W i hi hW
  obtain ⟨cap, op, ac, A, n, c, xs⟩ := d
  have hi : i < n := hi
  have hn : n ≤ 64 := hn
  obtain ⟨x, hx⟩ := h.row.get hi
  have hx : xs[i]? = some x := hx
  have HE : emptyB (xs.map Zv.z) i = (x.z.st == 0) := by unfold emptyB; rw [atI_of hx]
  show Calls _ _ _ _ fun e w' => e = .returned (.bool (emptyB (xs.map Zv.z) i)) ∧ _
  rw [HE]
  obtain ⟨b, o, hA, hb, hc⟩ := h.row.elem hx
  have hA : A = some ⟨b, o, none⟩ := hA
  subst hA
  have c0 : W.cell? ⟨b, o + i * 3, none⟩ = some (.int .i64 x.z.st) := hc W (hW.block b hb) 0 _ rfl
  obtain ⟨m0, m1, m2, m3⟩ := (hg.below hW).cells
  dsimp only at m0 m1 m2 m3
  have hi0 : (0 : Int) ≤ (i : Int) := by omega
  have hi1 : (i : Int) < (n : Int) := by omega
  clear h hg hc HE hW
  go_enter Try.func39, Try.ntmps39
  go_wp2
  go_ret
  exact ⟨rfl, Below.refl _ _⟩

set_option maxRecDepth 100000 in
set_option maxHeartbeats 6400000 in
theorem plan1_any {d : Dx} {w : World} {g q : Nat} {B : Option Addr} {e m : Nat} {l : List Ext.Ex} (h : DevAt w d) (hn : d.n ≤ 64) (hz : ∀ x ∈ d.xs, x.z.data.length ≤ 65536) (hg : DBox w g d) (hq : Ext.Cells w q 26 #[.slice B m e]) (hr : Row ci w B m e (cnts d.n l)) : PredI d.n 34 #[.pointer (some ⟨g, 0, none⟩), .pointer (some ⟨q, 0, none⟩)] (fullB (d.xs.map Zv.z) l) w := by
  intro W i hi hW
  obtain ⟨cap, op, ac, A, n, c, xs⟩ := d
  have hi : i < n := hi
  have hn : n ≤ 64 := hn
  have hr : Row ci w B m e (cnts n l) := hr
  obtain rfl : n = m := by rw [← hr.len, cnts_len]
  obtain ⟨x, hx⟩ := h.row.get hi
  have hx : xs[i]? = some x := hx
  have HE : fullB (xs.map Zv.z) l i = (x.z.st == 4 && decide (cntZ (i : Int) l < (wholeP x.z : Nat))) := by unfold fullB; rw [atI_of hx]
  show Calls _ _ _ _ fun e w' => e = .returned (.bool (fullB (xs.map Zv.z) l i)) ∧ _
  rw [HE]
  have HW := fun w => Lib.hid (whole_any x.z x.D x.c (by have := hz x (List.mem_of_getElem? hx); omega) w)
  unfold zv at HW
  obtain ⟨b, o, hA, hb, hc⟩ := h.row.elem hx
  have hA : A = some ⟨b, o, none⟩ := hA
  subst hA
  obtain ⟨b2, o2, hB, c2⟩ := (hr.below hW).cell (cnts_get l hi)
  subst hB
  have HS := fun W' (hW' : Below W.heap.size W W') => (show _ ∧ _ ∧ _ ∧ _ ∧ _ ∧ _ from ⟨hc W' ((hW'.block b (Nat.lt_of_lt_of_le hb hW.size)).trans (hW.block b hb)) 0 _ rfl, hc W' ((hW'.block b (Nat.lt_of_lt_of_le hb hW.size)).trans (hW.block b hb)) 1 _ rfl, hc W' ((hW'.block b (Nat.lt_of_lt_of_le hb hW.size)).trans (hW.block b hb)) 2 _ rfl, ((hg.below hW).below hW').cells.2.2.2, Ext.Cells.cell (Ext.Cells.below (Ext.Cells.below hq hW) hW') 0, (show W'.cell? ⟨b2, o2 + i, none⟩ = some (.int .i64 (cntZ (i : Int) l)) from by
      obtain ⟨b3, o3, hB3, c3⟩ := ((hr.below hW).below hW').cell (cnts_get l hi)
      injection hB3 with hB3; injection hB3 with h1 h2; subst h1 h2; exact c3)⟩)
  dsimp only [Nat.add_zero] at HS
  have hi0 : (0 : Int) ≤ (i : Int) := by omega
  have hi1 : (i : Int) < (n : Int) := by omega
  have L1 : Hid (Below W.heap.size W W) := Below.refl _ _
  clear h hg hc HE hr hq hz hx c2 hW hb
  generalize cntZ (i : Int) l = v at *
  rcases f1 : (x.z.st == 4)
  · go_enter Try.func34, Try.ntmps34
    go_upto_region 1 with fail
    have L2 := Lib.hid (L1.out.drew)
    refine wp_region_held_drew (S := fun W' => W'.cell? ⟨b, o + i * 3, none⟩ = some (.int .i64 x.z.st) ∧ W'.cell? ⟨b, o + i * 3 + 1, none⟩ = some (.int .i64 x.z.fc) ∧ W'.cell? ⟨b, o + i * 3 + 2, none⟩ = some (.slice x.D x.z.data.length x.c) ∧ W'.cell? ⟨g, 3, none⟩ = some (.slice (some ⟨b, o, none⟩) n c) ∧ W'.cell? ⟨q, 0, none⟩ = some (.slice (some ⟨b2, o2, none⟩) n e) ∧ W'.cell? ⟨b2, o2 + i, none⟩ = some (.int .i64 v)) (by kernel_rfl) (HS _ L2.out) (fun hHeld => ?_)
    generalize W.drew = W2 at *
    (first | (refine Reg.take 0 (v := ?_) rfl (by kernel_rfl) (by kernel_rfl) (by kernel_rfl) (fun _ _ _ h => h) (Or.inl ⟨by rfl, ?_⟩) (by assumption) ?_; rotate_left; (focus ((intro W hSW); (try dsimp only at hSW); (try go_split_ands); go_simp; (try (with_reducible rfl)); done))) | (refine Reg.take 0 (v := undef) rfl (by kernel_rfl) (by kernel_rfl) (by kernel_rfl) (fun _ _ _ h => h) (Or.inr ⟨by rfl, rfl⟩) (by assumption) ?_))
    (try simp only [Act.put, List.setIfInBounds_toArray, List.set_cons_zero, List.set_cons_succ])
    (first | (refine Reg.take 1 (v := ?_) rfl (by kernel_rfl) (by kernel_rfl) (by kernel_rfl) (fun _ _ _ h => h) (Or.inl ⟨by rfl, ?_⟩) (by assumption) ?_; rotate_left; (focus ((intro W hSW); (try dsimp only at hSW); (try go_split_ands); go_simp; (try (with_reducible rfl)); done))) | (refine Reg.take 1 (v := undef) rfl (by kernel_rfl) (by kernel_rfl) (by kernel_rfl) (fun _ _ _ h => h) (Or.inr ⟨by rfl, rfl⟩) (by assumption) ?_))
    (try simp only [Act.put, List.setIfInBounds_toArray, List.set_cons_zero, List.set_cons_succ])
    (first | (refine Reg.take 2 (v := ?_) rfl (by kernel_rfl) (by kernel_rfl) (by kernel_rfl) (fun _ _ _ h => h) (Or.inl ⟨by rfl, ?_⟩) (by assumption) ?_; rotate_left; (focus ((intro W hSW); (try dsimp only at hSW); (try go_split_ands); go_simp; (try (with_reducible rfl)); done))) | (refine Reg.take 2 (v := undef) rfl (by kernel_rfl) (by kernel_rfl) (by kernel_rfl) (fun _ _ _ h => h) (Or.inr ⟨by rfl, rfl⟩) (by assumption) ?_))
    (try simp only [Act.put, List.setIfInBounds_toArray, List.set_cons_zero, List.set_cons_succ])
    (first | (refine Reg.take 3 (v := ?_) rfl (by kernel_rfl) (by kernel_rfl) (by kernel_rfl) (fun _ _ _ h => h) (Or.inl ⟨by rfl, ?_⟩) (by assumption) ?_; rotate_left; (focus ((intro W hSW); (try dsimp only at hSW); (try go_split_ands); go_simp; (try (with_reducible rfl)); done))) | (refine Reg.take 3 (v := undef) rfl (by kernel_rfl) (by kernel_rfl) (by kernel_rfl) (fun _ _ _ h => h) (Or.inr ⟨by rfl, rfl⟩) (by assumption) ?_))
    (try simp only [Act.put, List.setIfInBounds_toArray, List.set_cons_zero, List.set_cons_succ])
    (first | (refine Reg.take 4 (v := ?_) rfl (by kernel_rfl) (by kernel_rfl) (by kernel_rfl) (fun _ _ _ h => h) (Or.inl ⟨by rfl, ?_⟩) (by assumption) ?_; rotate_left; (focus ((intro W hSW); (try dsimp only at hSW); (try go_split_ands); go_simp; (try (with_reducible rfl)); done))) | (refine Reg.take 4 (v := undef) rfl (by kernel_rfl) (by kernel_rfl) (by kernel_rfl) (fun _ _ _ h => h) (Or.inr ⟨by rfl, rfl⟩) (by assumption) ?_))
    (try simp only [Act.put, List.setIfInBounds_toArray, List.set_cons_zero, List.set_cons_succ])
    (first | (refine Reg.take 5 (v := ?_) rfl (by kernel_rfl) (by kernel_rfl) (by kernel_rfl) (fun _ _ _ h => h) (Or.inl ⟨by rfl, ?_⟩) (by assumption) ?_; rotate_left; (focus ((intro W hSW); (try dsimp only at hSW); (try go_split_ands); go_simp; (try (with_reducible rfl)); done))) | (refine Reg.take 5 (v := undef) rfl (by kernel_rfl) (by kernel_rfl) (by kernel_rfl) (fun _ _ _ h => h) (Or.inr ⟨by rfl, rfl⟩) (by assumption) ?_))
    (try simp only [Act.put, List.setIfInBounds_toArray, List.set_cons_zero, List.set_cons_succ])
    (first | (refine Reg.take 6 (v := ?_) rfl (by kernel_rfl) (by kernel_rfl) (by kernel_rfl) (fun _ _ _ h => h) (Or.inl ⟨by rfl, ?_⟩) (by assumption) ?_; rotate_left; (focus ((intro W hSW); (try dsimp only at hSW); (try go_split_ands); go_simp; (try (with_reducible rfl)); done))) | (refine Reg.take 6 (v := undef) rfl (by kernel_rfl) (by kernel_rfl) (by kernel_rfl) (fun _ _ _ h => h) (Or.inr ⟨by rfl, rfl⟩) (by assumption) ?_))
    (try simp only [Act.put, List.setIfInBounds_toArray, List.set_cons_zero, List.set_cons_succ])
    (first | (refine Reg.take 7 (v := ?_) rfl (by kernel_rfl) (by kernel_rfl) (by kernel_rfl) (fun _ _ _ h => h) (Or.inl ⟨by rfl, ?_⟩) (by assumption) ?_; rotate_left; (focus ((intro W hSW); (try dsimp only at hSW); (try go_split_ands); go_simp; (try (with_reducible rfl)); done))) | (refine Reg.take 7 (v := undef) rfl (by kernel_rfl) (by kernel_rfl) (by kernel_rfl) (fun _ _ _ h => h) (Or.inr ⟨by rfl, rfl⟩) (by assumption) ?_))
    (try simp only [Act.put, List.setIfInBounds_toArray, List.set_cons_zero, List.set_cons_succ])
    (first | (refine Reg.take 8 (v := ?_) rfl (by kernel_rfl) (by kernel_rfl) (by kernel_rfl) (fun _ _ _ h => h) (Or.inl ⟨by rfl, ?_⟩) (by assumption) ?_; rotate_left; (focus ((intro W hSW); (try dsimp only at hSW); (try go_split_ands); go_simp; (try (with_reducible rfl)); done))) | (refine Reg.take 8 (v := undef) rfl (by kernel_rfl) (by kernel_rfl) (by kernel_rfl) (fun _ _ _ h => h) (Or.inr ⟨by rfl, rfl⟩) (by assumption) ?_))
    (try simp only [Act.put, List.setIfInBounds_toArray, List.set_cons_zero, List.set_cons_succ])
    (first | (refine Reg.take 9 (v := ?_) rfl (by kernel_rfl) (by kernel_rfl) (by kernel_rfl) (fun _ _ _ h => h) (Or.inl ⟨by rfl, ?_⟩) (by assumption) ?_; rotate_left; (focus ((intro W hSW); (try dsimp only at hSW); (try go_split_ands); go_simp; (try (with_reducible rfl)); done))) | (refine Reg.take 9 (v := undef) rfl (by kernel_rfl) (by kernel_rfl) (by kernel_rfl) (fun _ _ _ h => h) (Or.inr ⟨by rfl, rfl⟩) (by assumption) ?_))
    (try simp only [Act.put, List.setIfInBounds_toArray, List.set_cons_zero, List.set_cons_succ])
    (first | (refine Reg.take 10 (v := ?_) rfl (by kernel_rfl) (by kernel_rfl) (by kernel_rfl) (fun _ _ _ h => h) (Or.inl ⟨by rfl, ?_⟩) (by assumption) ?_; rotate_left; (focus ((intro W hSW); (try dsimp only at hSW); (try go_split_ands); go_simp; (try (with_reducible rfl)); done))) | (refine Reg.take 10 (v := undef) rfl (by kernel_rfl) (by kernel_rfl) (by kernel_rfl) (fun _ _ _ h => h) (Or.inr ⟨by rfl, rfl⟩) (by assumption) ?_))
    (try simp only [Act.put, List.setIfInBounds_toArray, List.set_cons_zero, List.set_cons_succ])
    (first | (refine Reg.take 11 (v := ?_) rfl (by kernel_rfl) (by kernel_rfl) (by kernel_rfl) (fun _ _ _ h => h) (Or.inl ⟨by rfl, ?_⟩) (by assumption) ?_; rotate_left; (focus ((intro W hSW); (try dsimp only at hSW); (try go_split_ands); go_simp; (try (with_reducible rfl)); done))) | (refine Reg.take 11 (v := undef) rfl (by kernel_rfl) (by kernel_rfl) (by kernel_rfl) (fun _ _ _ h => h) (Or.inr ⟨by rfl, rfl⟩) (by assumption) ?_))
    (try simp only [Act.put, List.setIfInBounds_toArray, List.set_cons_zero, List.set_cons_succ])
    (first | (refine Reg.take 12 (v := ?_) rfl (by kernel_rfl) (by kernel_rfl) (by kernel_rfl) (fun _ _ _ h => h) (Or.inl ⟨by rfl, ?_⟩) (by assumption) ?_; rotate_left; (focus ((intro W hSW); (try dsimp only at hSW); (try go_split_ands); go_simp; (try (with_reducible rfl)); done))) | (refine Reg.take 12 (v := undef) rfl (by kernel_rfl) (by kernel_rfl) (by kernel_rfl) (fun _ _ _ h => h) (Or.inr ⟨by rfl, rfl⟩) (by assumption) ?_))
    (try simp only [Act.put, List.setIfInBounds_toArray, List.set_cons_zero, List.set_cons_succ])
    (first | (refine Reg.take 13 (v := ?_) rfl (by kernel_rfl) (by kernel_rfl) (by kernel_rfl) (fun _ _ _ h => h) (Or.inl ⟨by rfl, ?_⟩) (by assumption) ?_; rotate_left; (focus ((intro W hSW); (try dsimp only at hSW); (try go_split_ands); go_simp; (try (with_reducible rfl)); done))) | (refine Reg.take 13 (v := undef) rfl (by kernel_rfl) (by kernel_rfl) (by kernel_rfl) (fun _ _ _ h => h) (Or.inr ⟨by rfl, rfl⟩) (by assumption) ?_))
    (try simp only [Act.put, List.setIfInBounds_toArray, List.set_cons_zero, List.set_cons_succ])
    (first | (refine Reg.take 14 (v := ?_) rfl (by kernel_rfl) (by kernel_rfl) (by kernel_rfl) (fun _ _ _ h => h) (Or.inl ⟨by rfl, ?_⟩) (by assumption) ?_; rotate_left; (focus ((intro W hSW); (try dsimp only at hSW); (try go_split_ands); go_simp; (try (with_reducible rfl)); done))) | (refine Reg.take 14 (v := undef) rfl (by kernel_rfl) (by kernel_rfl) (by kernel_rfl) (fun _ _ _ h => h) (Or.inr ⟨by rfl, rfl⟩) (by assumption) ?_))
    (try simp only [Act.put, List.setIfInBounds_toArray, List.set_cons_zero, List.set_cons_succ])
    (first | (refine Reg.take 15 (v := ?_) rfl (by kernel_rfl) (by kernel_rfl) (by kernel_rfl) (fun _ _ _ h => h) (Or.inl ⟨by rfl, ?_⟩) (by assumption) ?_; rotate_left; (focus ((intro W hSW); (try dsimp only at hSW); (try go_split_ands); go_simp; (try (with_reducible rfl)); done))) | (refine Reg.take 15 (v := undef) rfl (by kernel_rfl) (by kernel_rfl) (by kernel_rfl) (fun _ _ _ h => h) (Or.inr ⟨by rfl, rfl⟩) (by assumption) ?_))
    (try simp only [Act.put, List.setIfInBounds_toArray, List.set_cons_zero, List.set_cons_succ])
    (first | (refine Reg.take 16 (v := ?_) rfl (by kernel_rfl) (by kernel_rfl) (by kernel_rfl) (fun _ _ _ h => h) (Or.inl ⟨by rfl, ?_⟩) (by assumption) ?_; rotate_left; (focus ((intro W hSW); (try dsimp only at hSW); (try go_split_ands); go_simp; (try (with_reducible rfl)); done))) | (refine Reg.take 16 (v := undef) rfl (by kernel_rfl) (by kernel_rfl) (by kernel_rfl) (fun _ _ _ h => h) (Or.inr ⟨by rfl, rfl⟩) (by assumption) ?_))
    (try simp only [Act.put, List.setIfInBounds_toArray, List.set_cons_zero, List.set_cons_succ])
    (first | (refine Reg.take 17 (v := ?_) rfl (by kernel_rfl) (by kernel_rfl) (by kernel_rfl) (fun _ _ _ h => h) (Or.inl ⟨by rfl, ?_⟩) (by assumption) ?_; rotate_left; (focus ((intro W hSW); (try dsimp only at hSW); (try go_split_ands); go_simp; (try (with_reducible rfl)); done))) | (refine Reg.take 17 (v := undef) rfl (by kernel_rfl) (by kernel_rfl) (by kernel_rfl) (fun _ _ _ h => h) (Or.inr ⟨by rfl, rfl⟩) (by assumption) ?_))
    (try simp only [Act.put, List.setIfInBounds_toArray, List.set_cons_zero, List.set_cons_succ])
    (first | (refine Reg.take 18 (v := ?_) rfl (by kernel_rfl) (by kernel_rfl) (by kernel_rfl) (fun _ _ _ h => h) (Or.inl ⟨by rfl, ?_⟩) (by assumption) ?_; rotate_left; (focus ((intro W hSW); (try dsimp only at hSW); (try go_split_ands); go_simp; (try (with_reducible rfl)); done))) | (refine Reg.take 18 (v := undef) rfl (by kernel_rfl) (by kernel_rfl) (by kernel_rfl) (fun _ _ _ h => h) (Or.inr ⟨by rfl, rfl⟩) (by assumption) ?_))
    (try simp only [Act.put, List.setIfInBounds_toArray, List.set_cons_zero, List.set_cons_succ])
    (first | (refine Reg.take 19 (v := ?_) rfl (by kernel_rfl) (by kernel_rfl) (by kernel_rfl) (fun _ _ _ h => h) (Or.inl ⟨by rfl, ?_⟩) (by assumption) ?_; rotate_left; (focus ((intro W hSW); (try dsimp only at hSW); (try go_split_ands); go_simp; (try (with_reducible rfl)); done))) | (refine Reg.take 19 (v := undef) rfl (by kernel_rfl) (by kernel_rfl) (by kernel_rfl) (fun _ _ _ h => h) (Or.inr ⟨by rfl, rfl⟩) (by assumption) ?_))
    (try simp only [Act.put, List.setIfInBounds_toArray, List.set_cons_zero, List.set_cons_succ])
    (first | (refine Reg.take 20 (v := ?_) rfl (by kernel_rfl) (by kernel_rfl) (by kernel_rfl) (fun _ _ _ h => h) (Or.inl ⟨by rfl, ?_⟩) (by assumption) ?_; rotate_left; (focus ((intro W hSW); (try dsimp only at hSW); (try go_split_ands); go_simp; (try (with_reducible rfl)); done))) | (refine Reg.take 20 (v := undef) rfl (by kernel_rfl) (by kernel_rfl) (by kernel_rfl) (fun _ _ _ h => h) (Or.inr ⟨by rfl, rfl⟩) (by assumption) ?_))
    (try simp only [Act.put, List.setIfInBounds_toArray, List.set_cons_zero, List.set_cons_succ])
    refine wpAnyH_done (by kernel_rfl) ?_ _
    clear hHeld
    go_wp2_with fail
    go_ret
    exact ⟨rfl, L2.out⟩
  · go_enter Try.func34, Try.ntmps34
    go_upto_region 1 with fail
    have L2 := Lib.hid (L1.out.drew)
    refine wp_region_held_drew (S := fun W' => W'.cell? ⟨b, o + i * 3, none⟩ = some (.int .i64 x.z.st) ∧ W'.cell? ⟨b, o + i * 3 + 1, none⟩ = some (.int .i64 x.z.fc) ∧ W'.cell? ⟨b, o + i * 3 + 2, none⟩ = some (.slice x.D x.z.data.length x.c) ∧ W'.cell? ⟨g, 3, none⟩ = some (.slice (some ⟨b, o, none⟩) n c) ∧ W'.cell? ⟨q, 0, none⟩ = some (.slice (some ⟨b2, o2, none⟩) n e) ∧ W'.cell? ⟨b2, o2 + i, none⟩ = some (.int .i64 v)) (by kernel_rfl) (HS _ L2.out) (fun hHeld => ?_)
    generalize W.drew = W2 at *
    clear L1
    (first | (refine Reg.take 0 (v := ?_) rfl (by kernel_rfl) (by kernel_rfl) (by kernel_rfl) (fun _ _ _ h => h) (Or.inl ⟨by rfl, ?_⟩) (by assumption) ?_; rotate_left; (focus ((intro W hSW); (try dsimp only at hSW); (try go_split_ands); go_simp; (try (with_reducible rfl)); done))) | (refine Reg.take 0 (v := undef) rfl (by kernel_rfl) (by kernel_rfl) (by kernel_rfl) (fun _ _ _ h => h) (Or.inr ⟨by rfl, rfl⟩) (by assumption) ?_))
    (try simp only [Act.put, List.setIfInBounds_toArray, List.set_cons_zero, List.set_cons_succ])
    (first | (refine Reg.take 1 (v := ?_) rfl (by kernel_rfl) (by kernel_rfl) (by kernel_rfl) (fun _ _ _ h => h) (Or.inl ⟨by rfl, ?_⟩) (by assumption) ?_; rotate_left; (focus ((intro W hSW); (try dsimp only at hSW); (try go_split_ands); go_simp; (try (with_reducible rfl)); done))) | (refine Reg.take 1 (v := undef) rfl (by kernel_rfl) (by kernel_rfl) (by kernel_rfl) (fun _ _ _ h => h) (Or.inr ⟨by rfl, rfl⟩) (by assumption) ?_))
    (try simp only [Act.put, List.setIfInBounds_toArray, List.set_cons_zero, List.set_cons_succ])
    (first | (refine Reg.take 2 (v := ?_) rfl (by kernel_rfl) (by kernel_rfl) (by kernel_rfl) (fun _ _ _ h => h) (Or.inl ⟨by rfl, ?_⟩) (by assumption) ?_; rotate_left; (focus ((intro W hSW); (try dsimp only at hSW); (try go_split_ands); go_simp; (try (with_reducible rfl)); done))) | (refine Reg.take 2 (v := undef) rfl (by kernel_rfl) (by kernel_rfl) (by kernel_rfl) (fun _ _ _ h => h) (Or.inr ⟨by rfl, rfl⟩) (by assumption) ?_))
    (try simp only [Act.put, List.setIfInBounds_toArray, List.set_cons_zero, List.set_cons_succ])
    (first | (refine Reg.take 3 (v := ?_) rfl (by kernel_rfl) (by kernel_rfl) (by kernel_rfl) (fun _ _ _ h => h) (Or.inl ⟨by rfl, ?_⟩) (by assumption) ?_; rotate_left; (focus ((intro W hSW); (try dsimp only at hSW); (try go_split_ands); go_simp; (try (with_reducible rfl)); done))) | (refine Reg.take 3 (v := undef) rfl (by kernel_rfl) (by kernel_rfl) (by kernel_rfl) (fun _ _ _ h => h) (Or.inr ⟨by rfl, rfl⟩) (by assumption) ?_))
    (try simp only [Act.put, List.setIfInBounds_toArray, List.set_cons_zero, List.set_cons_succ])
    (first | (refine Reg.take 4 (v := ?_) rfl (by kernel_rfl) (by kernel_rfl) (by kernel_rfl) (fun _ _ _ h => h) (Or.inl ⟨by rfl, ?_⟩) (by assumption) ?_; rotate_left; (focus ((intro W hSW); (try dsimp only at hSW); (try go_split_ands); go_simp; (try (with_reducible rfl)); done))) | (refine Reg.take 4 (v := undef) rfl (by kernel_rfl) (by kernel_rfl) (by kernel_rfl) (fun _ _ _ h => h) (Or.inr ⟨by rfl, rfl⟩) (by assumption) ?_))
    (try simp only [Act.put, List.setIfInBounds_toArray, List.set_cons_zero, List.set_cons_succ])
    (first | (refine Reg.take 5 (v := ?_) rfl (by kernel_rfl) (by kernel_rfl) (by kernel_rfl) (fun _ _ _ h => h) (Or.inl ⟨by rfl, ?_⟩) (by assumption) ?_; rotate_left; (focus ((intro W hSW); (try dsimp only at hSW); (try go_split_ands); go_simp; (try (with_reducible rfl)); done))) | (refine Reg.take 5 (v := undef) rfl (by kernel_rfl) (by kernel_rfl) (by kernel_rfl) (fun _ _ _ h => h) (Or.inr ⟨by rfl, rfl⟩) (by assumption) ?_))
    (try simp only [Act.put, List.setIfInBounds_toArray, List.set_cons_zero, List.set_cons_succ])
    (first | (refine Reg.take 6 (v := ?_) rfl (by kernel_rfl) (by kernel_rfl) (by kernel_rfl) (fun _ _ _ h => h) (Or.inl ⟨by rfl, ?_⟩) (by assumption) ?_; rotate_left; (focus ((intro W hSW); (try dsimp only at hSW); (try go_split_ands); go_simp; (try (with_reducible rfl)); done))) | (refine Reg.take 6 (v := undef) rfl (by kernel_rfl) (by kernel_rfl) (by kernel_rfl) (fun _ _ _ h => h) (Or.inr ⟨by rfl, rfl⟩) (by assumption) ?_))
    (try simp only [Act.put, List.setIfInBounds_toArray, List.set_cons_zero, List.set_cons_succ])
    (first | (refine Reg.take 7 (v := ?_) rfl (by kernel_rfl) (by kernel_rfl) (by kernel_rfl) (fun _ _ _ h => h) (Or.inl ⟨by rfl, ?_⟩) (by assumption) ?_; rotate_left; (focus ((intro W hSW); (try dsimp only at hSW); (try go_split_ands); go_simp; (try (with_reducible rfl)); done))) | (refine Reg.take 7 (v := undef) rfl (by kernel_rfl) (by kernel_rfl) (by kernel_rfl) (fun _ _ _ h => h) (Or.inr ⟨by rfl, rfl⟩) (by assumption) ?_))
    (try simp only [Act.put, List.setIfInBounds_toArray, List.set_cons_zero, List.set_cons_succ])
    (first | (refine Reg.take 8 (v := ?_) rfl (by kernel_rfl) (by kernel_rfl) (by kernel_rfl) (fun _ _ _ h => h) (Or.inl ⟨by rfl, ?_⟩) (by assumption) ?_; rotate_left; (focus ((intro W hSW); (try dsimp only at hSW); (try go_split_ands); go_simp; (try (with_reducible rfl)); done))) | (refine Reg.take 8 (v := undef) rfl (by kernel_rfl) (by kernel_rfl) (by kernel_rfl) (fun _ _ _ h => h) (Or.inr ⟨by rfl, rfl⟩) (by assumption) ?_))
    (try simp only [Act.put, List.setIfInBounds_toArray, List.set_cons_zero, List.set_cons_succ])
    (first | (refine Reg.take 9 (v := ?_) rfl (by kernel_rfl) (by kernel_rfl) (by kernel_rfl) (fun _ _ _ h => h) (Or.inl ⟨by rfl, ?_⟩) (by assumption) ?_; rotate_left; (focus ((intro W hSW); (try dsimp only at hSW); (try go_split_ands); go_simp; (try (with_reducible rfl)); done))) | (refine Reg.take 9 (v := undef) rfl (by kernel_rfl) (by kernel_rfl) (by kernel_rfl) (fun _ _ _ h => h) (Or.inr ⟨by rfl, rfl⟩) (by assumption) ?_))
    (try simp only [Act.put, List.setIfInBounds_toArray, List.set_cons_zero, List.set_cons_succ])
    (first | (refine Reg.take 10 (v := ?_) rfl (by kernel_rfl) (by kernel_rfl) (by kernel_rfl) (fun _ _ _ h => h) (Or.inl ⟨by rfl, ?_⟩) (by assumption) ?_; rotate_left; (focus ((intro W hSW); (try dsimp only at hSW); (try go_split_ands); go_simp; (try (with_reducible rfl)); done))) | (refine Reg.take 10 (v := undef) rfl (by kernel_rfl) (by kernel_rfl) (by kernel_rfl) (fun _ _ _ h => h) (Or.inr ⟨by rfl, rfl⟩) (by assumption) ?_))
    (try simp only [Act.put, List.setIfInBounds_toArray, List.set_cons_zero, List.set_cons_succ])
    (first | (refine Reg.take 11 (v := ?_) rfl (by kernel_rfl) (by kernel_rfl) (by kernel_rfl) (fun _ _ _ h => h) (Or.inl ⟨by rfl, ?_⟩) (by assumption) ?_; rotate_left; (focus ((intro W hSW); (try dsimp only at hSW); (try go_split_ands); go_simp; (try (with_reducible rfl)); done))) | (refine Reg.take 11 (v := undef) rfl (by kernel_rfl) (by kernel_rfl) (by kernel_rfl) (fun _ _ _ h => h) (Or.inr ⟨by rfl, rfl⟩) (by assumption) ?_))
    (try simp only [Act.put, List.setIfInBounds_toArray, List.set_cons_zero, List.set_cons_succ])
    (first | (refine Reg.take 12 (v := ?_) rfl (by kernel_rfl) (by kernel_rfl) (by kernel_rfl) (fun _ _ _ h => h) (Or.inl ⟨by rfl, ?_⟩) (by assumption) ?_; rotate_left; (focus ((intro W hSW); (try dsimp only at hSW); (try go_split_ands); go_simp; (try (with_reducible rfl)); done))) | (refine Reg.take 12 (v := undef) rfl (by kernel_rfl) (by kernel_rfl) (by kernel_rfl) (fun _ _ _ h => h) (Or.inr ⟨by rfl, rfl⟩) (by assumption) ?_))
    (try simp only [Act.put, List.setIfInBounds_toArray, List.set_cons_zero, List.set_cons_succ])
    (first | (refine Reg.take 13 (v := ?_) rfl (by kernel_rfl) (by kernel_rfl) (by kernel_rfl) (fun _ _ _ h => h) (Or.inl ⟨by rfl, ?_⟩) (by assumption) ?_; rotate_left; (focus ((intro W hSW); (try dsimp only at hSW); (try go_split_ands); go_simp; (try (with_reducible rfl)); done))) | (refine Reg.take 13 (v := undef) rfl (by kernel_rfl) (by kernel_rfl) (by kernel_rfl) (fun _ _ _ h => h) (Or.inr ⟨by rfl, rfl⟩) (by assumption) ?_))
    (try simp only [Act.put, List.setIfInBounds_toArray, List.set_cons_zero, List.set_cons_succ])
    (first | (refine Reg.take 14 (v := ?_) rfl (by kernel_rfl) (by kernel_rfl) (by kernel_rfl) (fun _ _ _ h => h) (Or.inl ⟨by rfl, ?_⟩) (by assumption) ?_; rotate_left; (focus ((intro W hSW); (try dsimp only at hSW); (try go_split_ands); go_simp; (try (with_reducible rfl)); done))) | (refine Reg.take 14 (v := undef) rfl (by kernel_rfl) (by kernel_rfl) (by kernel_rfl) (fun _ _ _ h => h) (Or.inr ⟨by rfl, rfl⟩) (by assumption) ?_))
    (try simp only [Act.put, List.setIfInBounds_toArray, List.set_cons_zero, List.set_cons_succ])
    (first | (refine Reg.take 15 (v := ?_) rfl (by kernel_rfl) (by kernel_rfl) (by kernel_rfl) (fun _ _ _ h => h) (Or.inl ⟨by rfl, ?_⟩) (by assumption) ?_; rotate_left; (focus ((intro W hSW); (try dsimp only at hSW); (try go_split_ands); go_simp; (try (with_reducible rfl)); done))) | (refine Reg.take 15 (v := undef) rfl (by kernel_rfl) (by kernel_rfl) (by kernel_rfl) (fun _ _ _ h => h) (Or.inr ⟨by rfl, rfl⟩) (by assumption) ?_))
    (try simp only [Act.put, List.setIfInBounds_toArray, List.set_cons_zero, List.set_cons_succ])
    (first | (refine Reg.take 16 (v := ?_) rfl (by kernel_rfl) (by kernel_rfl) (by kernel_rfl) (fun _ _ _ h => h) (Or.inl ⟨by rfl, ?_⟩) (by assumption) ?_; rotate_left; (focus ((intro W hSW); (try dsimp only at hSW); (try go_split_ands); go_simp; (try (with_reducible rfl)); done))) | (refine Reg.take 16 (v := undef) rfl (by kernel_rfl) (by kernel_rfl) (by kernel_rfl) (fun _ _ _ h => h) (Or.inr ⟨by rfl, rfl⟩) (by assumption) ?_))
    (try simp only [Act.put, List.setIfInBounds_toArray, List.set_cons_zero, List.set_cons_succ])
    refine Reg.step 17 rfl (by kernel_rfl) (by rfl) (fun K hK => ?_)
    go_simp
    refine (HW W2).out.mono ?_
    rintro e' W3 ⟨rfl, hb⟩
    have L3 := Lib.hid (L2.out.trans (hb.mono L2.out.size))
    clear hb L2
    refine hK.out _ _ (HS _ L3.out) (fun hHeld => ?_)
    clear hK K
    (try simp only [Act.put, List.setIfInBounds_toArray, List.set_cons_zero, List.set_cons_succ])
    (first | (refine Reg.take 18 (v := ?_) rfl (by kernel_rfl) (by kernel_rfl) (by kernel_rfl) (fun _ _ _ h => h) (Or.inl ⟨by rfl, ?_⟩) (by assumption) ?_; rotate_left; (focus ((intro W hSW); (try dsimp only at hSW); (try go_split_ands); go_simp; (try (with_reducible rfl)); done))) | (refine Reg.take 18 (v := undef) rfl (by kernel_rfl) (by kernel_rfl) (by kernel_rfl) (fun _ _ _ h => h) (Or.inr ⟨by rfl, rfl⟩) (by assumption) ?_))
    (try simp only [Act.put, List.setIfInBounds_toArray, List.set_cons_zero, List.set_cons_succ])
    (first | (refine Reg.take 19 (v := ?_) rfl (by kernel_rfl) (by kernel_rfl) (by kernel_rfl) (fun _ _ _ h => h) (Or.inl ⟨by rfl, ?_⟩) (by assumption) ?_; rotate_left; (focus ((intro W hSW); (try dsimp only at hSW); (try go_split_ands); go_simp; (try (with_reducible rfl)); done))) | (refine Reg.take 19 (v := undef) rfl (by kernel_rfl) (by kernel_rfl) (by kernel_rfl) (fun _ _ _ h => h) (Or.inr ⟨by rfl, rfl⟩) (by assumption) ?_))
    (try simp only [Act.put, List.setIfInBounds_toArray, List.set_cons_zero, List.set_cons_succ])
    (first | (refine Reg.take 20 (v := ?_) rfl (by kernel_rfl) (by kernel_rfl) (by kernel_rfl) (fun _ _ _ h => h) (Or.inl ⟨by rfl, ?_⟩) (by assumption) ?_; rotate_left; (focus ((intro W hSW); (try dsimp only at hSW); (try go_split_ands); go_simp; (try (with_reducible rfl)); done))) | (refine Reg.take 20 (v := undef) rfl (by kernel_rfl) (by kernel_rfl) (by kernel_rfl) (fun _ _ _ h => h) (Or.inr ⟨by rfl, rfl⟩) (by assumption) ?_))
    (try simp only [Act.put, List.setIfInBounds_toArray, List.set_cons_zero, List.set_cons_succ])
    refine wpAnyH_done (by kernel_rfl) ?_ _
    clear hHeld
    go_wp2_with fail
    go_ret
    exact ⟨by simp, L3.out⟩

set_option maxRecDepth 100000 in
set_option maxHeartbeats 3200000 in
theorem free_any {d : Dx} {w : World} (h : DevAt w d) {B : Option Addr} {m e : Nat} {sk : List Int} (hs : Row ci w B m e sk) :
    Calls Try.prog 18 #[dxv d, .slice B m e] w fun en w' => (∃ X k c, en = .returned (.slice X k c) ∧ Owns ci 3 w.heap.size w' (.slice X k c) k (bif okD d.p then iN (chooseP d.n (emptyB (d.xs.map Zv.z)) sk) else [])) ∧ Below w.heap.size w w' := by
  have HK := fun w (h : DevAt w d) => Lib.hid (check_dev h)
  have HN := Lib.hid (okD_n h)
  have hbig := h.row.big
  have eg : ∀ args w, (callFunc 39 args).run Try.prog w = .ok (.enter 39 args) w := enters_of Try.func39 (by kernel_rfl) rfl
  have HC := fun w g (h : DevAt w d) (hn : d.n ≤ 64) (hg : DBox w g d) (hs : Row ci w B m e sk) => Lib.hid (choose_any h (by omega) hs 39 #[.pointer (some ⟨g, 0, none⟩)] eg _ (free1_any h hn hg))
  have HD := Lib.hid h
  have HS := Lib.hid hs
  generalize hok : okD d.p = ok at *
  obtain ⟨cap, op, ac, A, n, c, xs⟩ := d
  have L1 := Lib.hid ((Below.refl w.heap.size w).alloc (Nat.le_refl _) (.cells #[.int .i64 cap, .int .i64 op, .int .i64 ac, .slice A n c] 38))
  have B1 := Lib.hid (DBox.new w ⟨cap, op, ac, A, n, c, xs⟩)
  unfold dxv at *
  dsimp only at *
  clear h hs hok eg
  rcases ok with _ | _
  · go_enter Try.func18, Try.ntmps18
    go_upto_region 1 with fail
    generalize w.alloc (.cells #[.int .i64 cap, .int .i64 op, .int .i64 ac, .slice A n c] 38) = w1 at *
    obtain ⟨m0, m1, m2, m3⟩ := B1.out.cells
    dsimp only at m0 m1 m2 m3
    go_wp2_with (go_at_call 38; refine (HK w1 (HD.out.below L1.out)).out.mono ?_; rintro e w2 ⟨rfl, hb⟩; have L2 := Lib.hid (L1.out.trans (hb.mono L1.out.size)); have er : Zon.errOf false = 1 := rfl; rw [er]; clear hb)
    go_ret
    exact ⟨⟨_, _, _, rfl, Mem.Owns.nil _ _ _ _⟩, L2.out⟩
  · have hn64 := (HN.out rfl).2.1
    have HC2 := fun w g h hg hs => HC w g h hn64 hg hs
    clear HC
    generalize hch : iN (chooseP n (emptyB (xs.map Zv.z)) sk) = r at *
    clear hch
    go_enter Try.func18, Try.ntmps18
    go_upto_region 1 with fail
    generalize w.alloc (.cells #[.int .i64 cap, .int .i64 op, .int .i64 ac, .slice A n c] 38) = w1 at *
    obtain ⟨m0, m1, m2, m3⟩ := B1.out.cells
    dsimp only at m0 m1 m2 m3
    go_wp2_with (first | (go_at_call 38; refine (HK w1 (HD.out.below L1.out)).out.mono ?_; rintro e w2 ⟨rfl, hb⟩; have L2 := Lib.hid (L1.out.trans (hb.mono L1.out.size)); have B2 := Lib.hid (Ext.Cells.below B1.out hb); have er : Zon.errOf true = 0 := rfl; rw [er]; clear hb; obtain ⟨q0, q1, q2, q3⟩ := DBox.cells B2.out; dsimp only at q0 q1 q2 q3) | (go_at_call 33; refine (HC2 w2 _ (HD.out.below L2.out) B2.out (HS.out.below L2.out)).out.mono ?_; rintro e w3 ⟨⟨X, k, f, rfl, ho⟩, hb⟩; have L3 := Lib.hid (L2.out.trans (hb.mono L2.out.size)); have O3 := Lib.hid (Mem.Owns.mono ho L2.out.size); clear hb ho) | fail)
    go_ret
    exact ⟨⟨_, _, _, rfl, O3.out⟩, L3.out⟩

/-- What was appended to the first k zones, less what a map needs there. -/
def wasteS (zs : List Zn) (l : List Ext.Ex) : Nat → Int
  | 0 => 0
  | k + 1 => wasteS zs l k + ((wholeP (atI zs k) : Nat) - cntZ (k : Int) l)
theorem waste_in {zs : List Zn} {l : List Ext.Ex} (hz : ∀ x ∈ zs, x.data.length ≤ 65536) (hl : Ok 0 l) (k : Nat) (hk : k ≤ zs.length) : -(1099511627776 * (k : Int)) ≤ wasteS zs l k ∧ wasteS zs l k ≤ 65536 * (k : Int) := by
  induction k with
  | zero => simp [wasteS]
  | succ k ih =>
    have h1 := ih (by omega)
    have h2 := cntZ_in hl (by omega) (k : Int)
    have h3 : (atI zs k).data.length ≤ 65536 := by
      have hx : zs[k]? = some zs[k] := List.getElem?_eq_getElem (by omega)
      unfold atI
      rw [List.getD_eq_getElem?_getD, hx]
      exact hz _ (List.mem_of_getElem? hx)
    have h4 : wholeP (atI zs k) ≤ 65536 := by unfold wholeP; omega
    simp only [wasteS]
    omega
def wasteP (d : Dx) (l : List Ext.Ex) : Int := bif needB d l then max (wasteS (d.xs.map Zv.z) l d.n) 0 else 0
end Liv
end Go.Proofs.Ytnnphpfobdcmbaa
