/-
  WALKS OVER THE DOCUMENT'S OWN Copy, Append, Torn, Same.
-/
import Derived.Test.YtfcehlipbdngbaaZonTorn
namespace Go.Proofs.Ytfcehlipbdngbaa
open Go.RowKit Mem
namespace Zon

/-- Only blocks of that element type may have changed. -/
structure Oth (e : TypeId) (w w' : World) : Prop where
  size : w.heap.size ≤ w'.heap.size
  block : ∀ k, k < w.heap.size → w'.heap[k]? = w.heap[k]? ∨ ∃ cur z, w.heap[k]? = some (.cells cur e z)
theorem Oth.owns {α : Type} {f : α → Value} {e e' : TypeId} {base : Nat} {w w' : World} {s : Value} {n : Nat} {l : List α} (h : Owns f e' base w s n l) (ho : Oth e w w') (hne : e' ≠ e) : Owns f e' base w' s n l := by
  refine ⟨h.1, ?_⟩
  rcases h.2 with hn | ⟨q, cap, cur, e1, hbg, hq, r⟩
  · exact .inl hn
  · refine .inr ⟨q, cap, cur, e1, hbg, ?_, r⟩
    rcases ho.block q (Array.getElem?_eq_some_iff.1 hq).1 with h1 | ⟨cur', z, h1⟩
    · exact h1.trans hq
    · rw [hq] at h1
      injection h1 with h1
      injection h1 with _ h2
      exact absurd h2 hne

/-- append onto a row of one's own, elements of any number of cells. -/
theorem wpList_append_wide {P : Program} {t e : TypeId} (ht : P.underlying t = some (.slice e)) {z : Value} {size bytes : Nat} (hinfo : (P.info? e).map (fun i => (i.zero, i.size, i.bytes)) = some (some z, size, bytes)) (hzs : z.cells.size = size) (hsz : 0 < size)
    {w : World} {ops : Array Oper} {rest : List Oper} {o : Oper} {a : Act} {Q : Exit → Act → World → Prop} (hgd : o.guard = none) (s x : Operand)
    (ho : o.op = .call { callee := .builtin .append, args := #[s, x], argTypes := #[t, t] }) (hty : o.type = t)
    (base : Nat) (sv : Value) (n : Nat) (l : List Value) (hs : a.eval s = sv) (hown : w.ownsRow base e size sv n l) (A : Addr) (m c : Nat) (l' : List Value) (hx : a.eval x = .slice (some A) m c) (hl : l'.length = m * size)
    (hc : ∀ j u, l'[j]? = some u → w.cell? (A.add j) = some u) (h1 : ∀ u ∈ l', u.oneCell' = true)
    (hbig : n + m ≤ 140737488351232) (hby : (n + m) * bytes ≤ 140737488355328) (hbase : base ≤ w.heap.size)
    (hk : ∀ A' c' w', w'.ownsRow base e size (.slice A' (n + m) c') (n + m) (l ++ l') → Below base w w' → Oth e w w' → wpList P ops Q rest (a.put o.dst (.slice A' (n + m) c')) w') :
    wpList P ops Q (o :: rest) a w := by
  obtain ⟨i, hi, hz0, hz1, hz2⟩ := info_parts hinfo
  refine wpList_plain hgd fun K hK => ?_
  obtain ⟨s', w', hrun, h2, h3, -, -⟩ := run_append_own_at (P := P) w base t t e i _ size bytes ht hi hz0 hz1 hz2 hzs hsz sv n _ hown A m c l' hl hc h1 (by unfold maxLen; omega) hby hbase
  have hsl : ∃ A' c', s' = .slice A' (n + m) c' := by
    rcases h2.2 with ⟨rfl, h0⟩ | ⟨q, cap, cur, rfl, -⟩
    · exact ⟨none, 0, by rw [h0]⟩
    · exact ⟨_, _, rfl⟩
  obtain ⟨A', c', rfl⟩ := hsl
  have hb : Below base w w' := (Below.refl base w).grown h3 hbase (fun k hk => (World.ownsRow.lt hown k hk).1)
  have hoth : Oth e w w' := by
    refine ⟨h3.size, fun k hk => ?_⟩
    by_cases hkk : some k = sv.ownBlock
    · rcases hown.2 with ⟨rfl, -⟩ | ⟨q, cap, cur, rfl, -, hq, -⟩
      · cases hkk
      · have : k = q := by simpa [Value.ownBlock] using hkk
        subst this
        exact .inr ⟨_, _, hq⟩
    · exact .inl (h3.block k hk hkk)
  unfold Oper.wp execOp
  simp only [ho, hty, resolve, invoke, builtin, Sem.run_bind, Sem.run_pure, Result.andThen_ok, List.map_toArray, List.map_cons, List.map_nil, hs, hx, hrun]
  exact hK _ _ (hk A' c' w' h2 hb hoth)

/-- The same, of rows. -/
theorem wpList_append_oth {α : Type} {P : Program} {f : α → Value} (hf : ∀ x, (f x).oneCell' = true) {t e : TypeId} (ht : P.underlying t = some (.slice e)) {z : Value} {bytes : Nat} (hinfo : (P.info? e).map (fun i => (i.zero, i.size, i.bytes)) = some (some z, 1, bytes)) (hzs : z.cells.size = 1)
    {w : World} {ops : Array Oper} {rest : List Oper} {o : Oper} {a : Act} {Q : Exit → Act → World → Prop} (hgd : o.guard = none) (s x : Operand)
    (ho : o.op = .call { callee := .builtin .append, args := #[s, x], argTypes := #[t, t] }) (hty : o.type = t)
    (base : Nat) (sv : Value) (n : Nat) (l : List α) (hs : a.eval s = sv) (hown : Owns f e base w sv n l) (A : Addr) (m c : Nat) (l' : List α) (hx : a.eval x = .slice (some A) m c) (h : Row f w (some A) m c l')
    (hbig : n + m ≤ 140737488351232) (hby : (n + m) * bytes ≤ 140737488355328) (hbase : base ≤ w.heap.size)
    (hk : ∀ A' c' w', Owns f e base w' (.slice A' (n + m) c') (n + m) (l ++ l') → Below base w w' → Oth e w w' → wpList P ops Q rest (a.put o.dst (.slice A' (n + m) c')) w') :
    wpList P ops Q (o :: rest) a w := by
  refine wpList_append_wide ht hinfo hzs (by omega) hgd s x ho hty base sv n (l.map f) hs hown A m c (l'.map f) hx (by simp [h.len]) (fun j u hj => ?_) (fun u hu => ?_) hbig hby hbase fun A' c' w' h1 h2 h3 => hk A' c' w' (by unfold Owns; rw [List.map_append]; exact h1) h2 h3
  · rw [List.getElem?_map] at hj
    obtain ⟨y, hy, rfl⟩ := Option.map_eq_some_iff.1 hj
    have hlt : j < l'.length := (List.getElem?_eq_some_iff.1 hy).1
    obtain ⟨b, o, e, -, hc⟩ := h.at_ (by have := h.len; omega)
    injection e with e
    subst e
    rw [add_none]
    exact hc j y hy
  · obtain ⟨y, -, rfl⟩ := List.mem_map.1 hu
    exact hf y
theorem Oth.box {e : TypeId} {w w' : World} {g : Nat} {t : TypeId} {cs : Array Value} (h : Cells w g t cs) (ho : Oth e w w') (hne : t ≠ e) : Cells w' g t cs := by
  rcases ho.block g (Cells.lt h) with h1 | ⟨cur, z, h1⟩
  · exact h1.trans h
  · have h2 := h1.symm.trans h
    injection h2 with h2
    injection h2 with _ h3
    exact absurd h3.symm hne

/-- A store into a block of another type of elements. -/
theorem Owns.otherT {α : Type} {f : α → Value} {e : TypeId} {base : Nat} {w : World} {s : Value} {n : Nat} {l : List α} (h : Owns f e base w s n l) {g : Nat} {t : TypeId} {cs : Array Value} (hc : Cells w g t cs) (hne : t ≠ e) (i : Nat) (v : Value) :
    Owns f e base (w.setCell ⟨g, i, none⟩ v) s n l := by
  refine ⟨h.1, ?_⟩
  rcases h.2 with hn | ⟨q, cap, cur, e1, hbg, hq, r⟩
  · exact .inl hn
  · refine .inr ⟨q, cap, cur, e1, hbg, ?_, r⟩
    refine (Below.heap_setCell _ _ _ _ ?_).trans hq
    intro hqg
    obtain rfl : q = g := hqg
    have h2 := hq.symm.trans hc
    injection h2 with h2
    injection h2 with _ h3
    exact hne h3.symm
theorem Box.belowB {w w' : World} {g K : Nat} {z : Zn} {D : Option Addr} {c : Nat} (h : Box w g z D c) (hg : g < K) (hb : Below K w w') : Box w' g z D c := (hb.block g hg).trans h

set_option maxRecDepth 100000 in
set_option maxHeartbeats 800000 in
theorem copy_any {z : Zn} {D : Option Addr} {c : Nat} {w : World} (h : Row cb w D z.data.length c z.data) :
    Calls Try.prog 11 #[zv z D c] w (GaveZ1 w z) := by
  have H1 := Lib.hid h
  have hbig := h.big
  obtain ⟨L1, B1, N1⟩ := two_new w z D c
  unfold zv at *
  clear h
  go_enter Try.func11, Try.ntmps11
  go_upto_region 1 with fail
  generalize (w.alloc (.cells #[.int .i64 z.st, .int .i64 z.fc, .slice D z.data.length c] 24)).alloc (.cells #[.int .i64 0, .int .i64 0, .slice none 0 0] 24) = w1 at *
  obtain ⟨c0, c1, c2⟩ := B1.out.cells
  go_upto_region 2 with (at_builtin
                         refine wpList_append_row cb_one Try.underlying22 info_byte rfl rfl (.const (.slice none 0 0)) (.tmp 4) rfl rfl w1.heap.size (.slice none 0 0) 0 [] rfl (Owns.nil _ _ _ _) D z.data.length c z.data rfl (H1.out.below L1.out) (by omega) (by omega) (Nat.le_refl _) ?_
                         intro A' c' w2 hown hb
                         have O2 := Lib.hid (show Owns cb 5 w1.heap.size w2 (.slice A' z.data.length c') z.data.length z.data by simpa using hown)
                         have B2 := Lib.hid (B1.out.below hb)
                         have N2 := Lib.hid (N1.out.below hb)
                         have L2 := Lib.hid (L1.out.trans (hb.mono L1.out.size))
                         obtain ⟨f0, f1, f2⟩ := B2.out.frozen
                         obtain ⟨d0, d1, d2⟩ := B2.out.cells
                         clear hown hb)
  have B3 : Hid (Box (w2.setCell ⟨w.heap.size, 2, none⟩ (.slice A' z.data.length c')) w.heap.size z A' c') := Cells.set_ B2.out 2 (.slice A' z.data.length c')
  have N3 : Hid (Box (w2.setCell ⟨w.heap.size, 2, none⟩ (.slice A' z.data.length c')) (w.heap.size + 1) nilZ none 0) := Cells.set_other N2.out (by omega) 2 (.slice A' z.data.length c')
  have L3 := Lib.hid (L2.out.setCell (p := ⟨w.heap.size, 2, none⟩) (Nat.le_refl _) (.slice A' z.data.length c'))
  have O3 := Lib.hid (Owns.other O2.out (p := ⟨w.heap.size, 2, none⟩) B1.out.lt (.slice A' z.data.length c'))
  have HLT : Hid (w.heap.size + 1 < w1.heap.size) := N1.out.lt
  clear B2 N2 L2 O2 B1 N1 L1 H1 c0 c1 c2 d0 d1 d2 f0 f1 f2
  generalize w2.setCell ⟨w.heap.size, 2, none⟩ (.slice A' z.data.length c') = w3 at *
  obtain ⟨c0, c1, c2⟩ := B3.out.cells
  obtain ⟨f0, f1, f2⟩ := N3.out.frozen
  obtain ⟨n0, n1, n2⟩ := N3.out.cells
  go_wp2_with fail
  refine bodyPost_ret_by (results_cell_row rfl _ _ (w.heap.size + 1) _ _ _ _ rfl (Box.store N3.out z A' c') Try.underlying24 rfl (by kernel_rfl)) rfl ?_
  exact ⟨A', c', rfl, (Owns.other3 (g := w.heap.size + 1) O3.out HLT.out _ _ _).mono (by have := HLT.out; omega), below3 L3.out (by omega) _ _ _⟩

/-- A zone written into the block of the result, and what a call gave with it. -/
theorem gave_nil3 {w W : World} {x y v : Value} {rest : List Value} (h : Below w.heap.size w W) : GaveZ w nilZ rest (.returned (.tuple (zv nilZ none 0 :: rest).toArray)) (((W.setCell ⟨w.heap.size + 1, 0, none⟩ x).setCell ⟨w.heap.size + 1, 1, none⟩ y).setCell ⟨w.heap.size + 1, 2, none⟩ v) :=
  ⟨none, 0, rfl, Owns.nil _ _ _ _, below3 h (by omega) _ _ _⟩

set_option maxRecDepth 100000 in
set_option maxHeartbeats 3200000 in
theorem refAppend_bad {z : Zn} {D : Option Addr} {c : Nat} {most : Int} {B : Option Addr} {n d : Nat} {w : World} (hn : n ≤ 140737488351232) {er : Int} (he : appErr z most n = er) (h0 : er ≠ 0) :
    Calls Try.prog 13 #[zv z D c, .int .i64 most, .slice B n d] w (GaveZ w nilZ [.int .i64 0, .int .i64 er]) := by
  have HK := fun w => Lib.hid (refCheck_any z D c most w)
  obtain ⟨L1, B1, N1⟩ := two_new w z D c
  rcases app_cases z most n with ⟨ho, he'⟩ | ⟨ho, hn0, he'⟩ | ⟨ho, hn0, h4, he'⟩ | ⟨ho, hn0, h4, hf, he'⟩ | ⟨ho, hn0, h4, hf, he'⟩
  · obtain rfl : er = 1 := he.symm.trans he'
    rw [ho] at HK
    unfold zv errOf at *
    clear he he' h0 ho
    simp only [cond_false] at HK
    go_enter Try.func13, Try.ntmps13
    go_wp2_with fail
    generalize (w.alloc (.cells #[.int .i64 z.st, .int .i64 z.fc, .slice D z.data.length c] 24)).alloc (.cells #[.int .i64 0, .int .i64 0, .slice none 0 0] 24) = w1 at *
    refine (HK w1).out.mono ?_
    rintro e w2 ⟨rfl, hb2⟩
    have L2 := Lib.hid (L1.out.trans (hb2.mono L1.out.size))
    have N2 := Lib.hid (N1.out.below hb2)
    obtain ⟨n0, n1, n2⟩ := N2.out.cells
    obtain ⟨f0, f1, f2⟩ := N2.out.frozen
    clear hb2
    go_wp2_with fail
    refine bodyPost_ret_by (results_zone_tmp2 rfl _ _ (w.heap.size + 1) _ _ _ _ rfl (Box.store N2.out nilZ none 0) Try.underlying24 rfl (by kernel_rfl)) rfl ?_
    exact gave_nil3 L2.out
  all_goals
    obtain ⟨p1, p2, -, -, p5⟩ := ok_parts ho
    rw [ho] at HK
    unfold zv Zn.len errOf at *
    simp only [cond_true] at HK
    clear ho
  · obtain rfl : er = 1 := he.symm.trans he'
    subst hn0
    clear he he' h0
    go_enter Try.func13, Try.ntmps13
    go_wp2_with fail
    generalize (w.alloc (.cells #[.int .i64 z.st, .int .i64 z.fc, .slice D z.data.length c] 24)).alloc (.cells #[.int .i64 0, .int .i64 0, .slice none 0 0] 24) = w1 at *
    refine (HK w1).out.mono ?_
    rintro e w2 ⟨rfl, hb2⟩
    have L2 := Lib.hid (L1.out.trans (hb2.mono L1.out.size))
    have N2 := Lib.hid (N1.out.below hb2)
    obtain ⟨n0, n1, n2⟩ := N2.out.cells
    obtain ⟨f0, f1, f2⟩ := N2.out.frozen
    clear hb2
    go_wp2_with fail
    refine bodyPost_ret_by (results_zone_tmp2 rfl _ _ (w.heap.size + 1) _ _ _ _ rfl (Box.store N2.out nilZ none 0) Try.underlying24 rfl (by kernel_rfl)) rfl ?_
    exact gave_nil3 L2.out
  · obtain rfl : er = 41 := he.symm.trans he'
    have hn1 : ((n : Int) == 0) = false := beq_eq_false_iff_ne.2 (by omega)
    have e4 : (z.st == 4) = true := by rw [h4]; rfl
    clear he he' h0 h4 hn0
    go_enter Try.func13, Try.ntmps13
    go_wp2_with fail
    generalize (w.alloc (.cells #[.int .i64 z.st, .int .i64 z.fc, .slice D z.data.length c] 24)).alloc (.cells #[.int .i64 0, .int .i64 0, .slice none 0 0] 24) = w1 at *
    refine (HK w1).out.mono ?_
    rintro e w2 ⟨rfl, hb2⟩
    have L2 := Lib.hid (L1.out.trans (hb2.mono L1.out.size))
    have N2 := Lib.hid (N1.out.below hb2)
    obtain ⟨c0, c1, c2⟩ := (B1.out.below hb2).cells
    obtain ⟨n0, n1, n2⟩ := N2.out.cells
    obtain ⟨f0, f1, f2⟩ := N2.out.frozen
    clear hb2
    go_wp2_with fail
    refine bodyPost_ret_by (results_zone_tmp2 rfl _ _ (w.heap.size + 1) _ _ _ _ rfl (Box.store N2.out nilZ none 0) Try.underlying24 rfl (by kernel_rfl)) rfl ?_
    exact gave_nil3 L2.out
  · obtain rfl : er = 40 := he.symm.trans he'
    have hn1 : ((n : Int) == 0) = false := beq_eq_false_iff_ne.2 (by omega)
    have e4 : (z.st == 4) = false := beq_eq_false_iff_ne.2 h4
    have hwr : IntKind.i64.wrap ((z.data.length : Int) + (n : Int)) = (z.data.length : Int) + (n : Int) := by rw [IntKind.wrap_i64]; omega
    have hd : decide (most < (z.data.length : Int) + (n : Int)) = true := decide_eq_true hf
    clear he he' h0 h4 hn0 hf
    go_enter Try.func13, Try.ntmps13
    go_wp2_with fail
    generalize (w.alloc (.cells #[.int .i64 z.st, .int .i64 z.fc, .slice D z.data.length c] 24)).alloc (.cells #[.int .i64 0, .int .i64 0, .slice none 0 0] 24) = w1 at *
    refine (HK w1).out.mono ?_
    rintro e w2 ⟨rfl, hb2⟩
    have L2 := Lib.hid (L1.out.trans (hb2.mono L1.out.size))
    have N2 := Lib.hid (N1.out.below hb2)
    obtain ⟨c0, c1, c2⟩ := (B1.out.below hb2).cells
    obtain ⟨n0, n1, n2⟩ := N2.out.cells
    obtain ⟨f0, f1, f2⟩ := N2.out.frozen
    clear hb2
    go_wp2_with fail
    refine bodyPost_ret_by (results_zone_tmp2 rfl _ _ (w.heap.size + 1) _ _ _ _ rfl (Box.store N2.out nilZ none 0) Try.underlying24 rfl (by kernel_rfl)) rfl ?_
    exact gave_nil3 L2.out
  · exact absurd (he.symm.trans he') h0

set_option maxRecDepth 100000 in
set_option maxHeartbeats 3200000 in
theorem refAppend_ok {z : Zn} {D : Option Addr} {c : Nat} {most : Int} {b : List B8} {B : Option Addr} {d : Nat} {w : World} (h1 : Row cb w D z.data.length c z.data) (h2 : Row cb w B b.length d b) (he : appErr z most b.length = 0) :
    Calls Try.prog 13 #[zv z D c, .int .i64 most, .slice B b.length d] w (GaveZ w (appZ z most b) [.int .i64 z.len, .int .i64 0]) := by
  have HK := fun w => Lib.hid (refCheck_any z D c most w)
  have HC := fun w (h : Row cb w D z.data.length c z.data) => Lib.hid (copy_any h)
  obtain ⟨L1, B1, N1⟩ := two_new w z D c
  obtain ⟨ho, hn0, h4, hf⟩ := appErr_zero he
  obtain ⟨p1, p2, -, -, p5⟩ := ok_parts ho
  rw [ho] at HK
  have H1 := Lib.hid h1
  have H2 := Lib.hid h2
  have hap : appZ z most b = ⟨stB z.st (z.len + b.length) most, z.fc, z.data ++ b⟩ := rfl
  rw [hap]
  unfold GaveZ1 at *
  unfold zv Zn.len errOf at *
  simp only [cond_true] at HK
  have hn1 : ((b.length : Int) == 0) = false := beq_eq_false_iff_ne.2 (by omega)
  have e4 : (z.st == 4) = false := beq_eq_false_iff_ne.2 h4
  have hwr : IntKind.i64.wrap ((z.data.length : Int) + (b.length : Int)) = (z.data.length : Int) + (b.length : Int) := by rw [IntKind.wrap_i64]; omega
  have hd : decide (most < (z.data.length : Int) + (b.length : Int)) = false := decide_eq_false (by omega)
  have hsum : z.data.length + b.length ≤ 65536 := by omega
  obtain ⟨s0, hs0⟩ : ∃ s0, stB z.st ((z.data.length : Int) + b.length) most = s0 := ⟨_, rfl⟩
  rw [hs0]
  have HS0 := Lib.hid hs0
  clear he ho h4 hf hap h1 h2 p1 p2 p5 hs0
  go_enter Try.func13, Try.ntmps13
  go_wp2_with fail
  generalize (w.alloc (.cells #[.int .i64 z.st, .int .i64 z.fc, .slice D z.data.length c] 24)).alloc (.cells #[.int .i64 0, .int .i64 0, .slice none 0 0] 24) = w1 at *
  refine (HK w1).out.mono ?_
  rintro e w2 ⟨rfl, hb2⟩
  have L2 := Lib.hid (L1.out.trans (hb2.mono L1.out.size))
  have B2 := Lib.hid (B1.out.below hb2)
  have N2 := Lib.hid (N1.out.below hb2)
  obtain ⟨c0, c1, c2⟩ := B2.out.cells
  clear hb2 L1 B1 N1 HK
  go_wp2_with fail
  refine (HC w2 (H1.out.below L2.out)).out.mono ?_
  rintro e w3 ⟨X, q, rfl, hX, hb3⟩
  unfold zv at *
  clear c0 c1 c2
  have HLT : Hid (w.heap.size + 1 < w2.heap.size) := N2.out.lt
  have b34 : Below w3.heap.size w3 (w3.alloc (.cells #[.int .i64 z.st, .int .i64 z.fc, .slice X z.data.length q] 24)) := (Below.refl _ w3).alloc (Nat.le_refl _) _
  have L4 := Lib.hid ((L2.out.trans (hb3.mono L2.out.size)).trans (b34.mono (Nat.le_trans L2.out.size hb3.size)))
  have B4 := Lib.hid ((B2.out.below hb3).below b34)
  have N4 := Lib.hid ((N2.out.below hb3).below b34)
  have O4 := Lib.hid (hX.below b34)
  have Y4 := Lib.hid (Box.new w3 z X q)
  have H24 := Lib.hid ((H2.out.below L2.out).below hb3 |>.below b34)
  have HY : Hid (w.heap.size + 1 < w3.heap.size) := Nat.lt_of_lt_of_le HLT.out hb3.size
  have HS : Hid (w2.heap.size ≤ (w3.alloc (.cells #[.int .i64 z.st, .int .i64 z.fc, .slice X z.data.length q] 24)).heap.size) := Nat.le_trans hb3.size b34.size
  clear hX hb3 b34 L2 B2 N2 HC
  go_upto_region 8 with fail
  generalize w3.alloc (.cells #[.int .i64 z.st, .int .i64 z.fc, .slice X z.data.length q] 24) = w4 at *
  generalize w3.heap.size = g at *
  obtain ⟨y0, y1, y2⟩ := Y4.out.cells
  go_upto_region 9 with fail
  have hBa : ∃ a, B = some a := by
    obtain ⟨bb, oo, e, -⟩ := H24.out.at_ hn0
    exact ⟨_, e⟩
  obtain ⟨ba, rfl⟩ := hBa
  have HL : Hid (w.heap.size ≤ w2.heap.size) := by have := HLT.out; show _ ≤ _; omega
  have hYT : Hid (g < w4.heap.size) := Y4.out.lt
  go_upto_region 10 with (at_builtin
                          refine wpList_append_oth cb_one Try.underlying22 info_byte rfl rfl (.tmp 40) (.tmp 41) rfl rfl w2.heap.size _ z.data.length z.data rfl O4.out ba b.length d b rfl H24.out (by omega) (by omega) HS.out ?_
                          intro A' c' w5 hown hb ho
                          have O5 := Lib.hid hown
                          have B5 := Lib.hid (B4.out.belowB (Nat.lt_of_succ_lt HLT.out) hb)
                          have N5 := Lib.hid (N4.out.belowB HLT.out hb)
                          have L5 := Lib.hid (L4.out.trans (hb.mono HL.out))
                          have Y5 : Hid (Box w5 g z X q) := Oth.box Y4.out ho (by decide)
                          obtain ⟨f0, f1, f2⟩ := Y5.out.frozen
                          obtain ⟨y0, y1, y2⟩ := Y5.out.cells
                          clear hown hb ho)
  have hyl : z.data.length + b.length = (z.data ++ b).length := by simp
  have hyi : Hid ((z.data.length : Int) + (b.length : Int) = ((z.data ++ b).length : Int)) := by show _ = _; rw [← hyl]; simp
  have O5 := O5.out
  rw [hyl] at O5 ⊢
  have O6 := Lib.hid (Owns.otherT O5 Y5.out (by decide) 2 (.slice A' (z.data ++ b).length c'))
  have B6 : Hid (Box (w5.setCell ⟨g, 2, none⟩ (.slice A' (z.data ++ b).length c')) w.heap.size z D c) := Cells.set_other B5.out (by have := HY.out; omega) 2 (.slice A' (z.data ++ b).length c')
  have N6 : Hid (Box (w5.setCell ⟨g, 2, none⟩ (.slice A' (z.data ++ b).length c')) (w.heap.size + 1) nilZ none 0) := Cells.set_other N5.out (by have := HY.out; omega) 2 (.slice A' (z.data ++ b).length c')
  have Y6 : Hid (Box (w5.setCell ⟨g, 2, none⟩ (.slice A' (z.data ++ b).length c')) g ⟨z.st, z.fc, z.data ++ b⟩ A' c') := Cells.set_ Y5.out 2 (.slice A' (z.data ++ b).length c')
  have L6 := Lib.hid (L5.out.setCell (p := ⟨g, 2, none⟩) (by have := HY.out; show w.heap.size ≤ g; omega) (.slice A' (z.data ++ b).length c'))
  rw [hyi.out]
  have HS1 : Hid (stB z.st ((z.data ++ b).length : Int) most = s0) := by show _ = _; rw [← hyi.out]; exact HS0.out
  clear HS0 hyl O5 B5 N5 Y5 L5 B4 N4 O4 Y4 L4 H24 H2 H1 hyi f0 f1 f2 hsum hd hwr
  generalize w5.setCell ⟨g, 2, none⟩ (.slice A' (z.data ++ b).length c') = w6 at *
  generalize z.data ++ b = y at *
  obtain ⟨y0, y1, y2⟩ := Y6.out.cells
  obtain ⟨g0, g1, g2⟩ := Y6.out.frozen
  obtain ⟨c0, c1, c2⟩ := B6.out.cells
  obtain ⟨n0, n1, n2⟩ := N6.out.cells
  obtain ⟨f0, f1, f2⟩ := N6.out.frozen
  simp only at y0 y1 y2
  rcases e0 : ((y.length : Int) == most)
  · rcases e2 : (z.st == 2)
    · have e2' : (z.st != 2) = true := by unfold bne; rw [e2]; rfl
      obtain rfl : s0 = 1 := by rw [← HS1.out, stB, e0, e2]; rfl
      go_upto_region 14 with fail
      have O7 := Lib.hid (Owns.otherT O6.out Y6.out (by decide) 0 (.int .i64 1))
      have N7 : Hid (Box (w6.setCell ⟨g, 0, none⟩ (.int .i64 1)) (w.heap.size + 1) nilZ none 0) := Cells.set_other N6.out (by have := HY.out; omega) 0 (.int .i64 1)
      have Y7 : Hid (Box (w6.setCell ⟨g, 0, none⟩ (.int .i64 1)) g ⟨1, z.fc, y⟩ A' c') := Cells.set_ Y6.out 0 (.int .i64 1)
      have L7 := Lib.hid (L6.out.setCell (p := ⟨g, 0, none⟩) (by have := HY.out; show w.heap.size ≤ g; omega) (.int .i64 1))
      clear y0 y1 y2 g0 g1 g2 c0 c1 c2 n0 n1 n2 f0 f1 f2 O6 N6 Y6 L6 B6
      generalize w6.setCell ⟨g, 0, none⟩ (.int .i64 1) = w7 at *
      obtain ⟨y0, y1, y2⟩ := Y7.out.cells
      obtain ⟨n0, n1, n2⟩ := N7.out.cells
      obtain ⟨f0, f1, f2⟩ := N7.out.frozen
      simp only at y0 y1 y2
      go_wp2_with fail
      refine bodyPost_ret_by (results_zone_tmp2 rfl _ _ (w.heap.size + 1) _ _ _ _ rfl (Box.store N7.out ⟨1, z.fc, y⟩ A' c') Try.underlying24 rfl (by kernel_rfl)) rfl ?_
      exact ⟨A', c', rfl, (Owns.other3 (g := w.heap.size + 1) O7.out HLT.out _ _ _).mono HL.out, below3 L7.out (by omega) _ _ _⟩
    · have e2' : (z.st != 2) = false := by unfold bne; rw [e2]; rfl
      have hz2 := Lib.hid (show z.st = 2 from beq_iff_eq.1 e2)
      have O7 := O6
      have N7 := N6
      have L7 := L6
      obtain rfl : s0 = z.st := by rw [← HS1.out, stB, e0, e2, hz2.out]; rfl
      go_wp2_with fail
      refine bodyPost_ret_by (results_zone_tmp2 rfl _ _ (w.heap.size + 1) _ _ _ _ rfl (Box.store N7.out ⟨z.st, z.fc, y⟩ A' c') Try.underlying24 rfl (by kernel_rfl)) rfl ?_
      exact ⟨A', c', rfl, (Owns.other3 (g := w.heap.size + 1) O7.out HLT.out _ _ _).mono HL.out, below3 L7.out (by omega) _ _ _⟩
  · obtain rfl : s0 = 4 := by rw [← HS1.out, stB, e0]; rfl
    go_upto_region 14 with fail
    have O7 := Lib.hid (Owns.otherT O6.out Y6.out (by decide) 0 (.int .i64 4))
    have N7 : Hid (Box (w6.setCell ⟨g, 0, none⟩ (.int .i64 4)) (w.heap.size + 1) nilZ none 0) := Cells.set_other N6.out (by have := HY.out; omega) 0 (.int .i64 4)
    have Y7 : Hid (Box (w6.setCell ⟨g, 0, none⟩ (.int .i64 4)) g ⟨4, z.fc, y⟩ A' c') := Cells.set_ Y6.out 0 (.int .i64 4)
    have L7 := Lib.hid (L6.out.setCell (p := ⟨g, 0, none⟩) (by have := HY.out; show w.heap.size ≤ g; omega) (.int .i64 4))
    clear y0 y1 y2 g0 g1 g2 c0 c1 c2 n0 n1 n2 f0 f1 f2 O6 N6 Y6 L6 B6
    generalize w6.setCell ⟨g, 0, none⟩ (.int .i64 4) = w7 at *
    obtain ⟨y0, y1, y2⟩ := Y7.out.cells
    obtain ⟨n0, n1, n2⟩ := N7.out.cells
    obtain ⟨f0, f1, f2⟩ := N7.out.frozen
    simp only at y0 y1 y2
    go_wp2_with fail
    refine bodyPost_ret_by (results_zone_tmp2 rfl _ _ (w.heap.size + 1) _ _ _ _ rfl (Box.store N7.out ⟨4, z.fc, y⟩ A' c') Try.underlying24 rfl (by kernel_rfl)) rfl ?_
    exact ⟨A', c', rfl, (Owns.other3 (g := w.heap.size + 1) O7.out HLT.out _ _ _).mono HL.out, below3 L7.out (by omega) _ _ _⟩

/-- Two zones are the same. -/
def sameZ (x y : Zn) : Bool := (x.st == y.st) && ((x.fc == y.fc) && decide (x.data = y.data))
theorem sameZ_iff (x y : Zn) : sameZ x y = true ↔ x = y := by
  obtain ⟨a, b, c⟩ := x
  obtain ⟨d, e, f⟩ := y
  simp [sameZ]
theorem sameZ_self (x : Zn) : sameZ x x = true := (sameZ_iff x x).2 rfl

set_option maxRecDepth 100000 in
set_option maxHeartbeats 1600000 in
theorem same_any {x y : Zn} {A B : Option Addr} {c d : Nat} {w : World} (h1 : Row cb w A x.data.length c x.data) (h2 : Row cb w B y.data.length d y.data) :
    Calls Try.prog 16 #[zv x A c, zv y B d] w fun e w' => e = .returned (.bool (sameZ x y)) ∧ Below w.heap.size w w' := by
  have hw : ∀ w1 : World, Below w.heap.size w w1 → Hid (Row cb w1 A x.data.length c x.data ∧ Row cb w1 B y.data.length d y.data) := fun w1 hb => ⟨h1.below hb, h2.below hb⟩
  have L1 := Lib.hid (((Below.refl w.heap.size w).alloc (Nat.le_refl _) (.cells #[.int .i64 x.st, .int .i64 x.fc, .slice A x.data.length c] 24)).alloc (by simp) (.cells #[.int .i64 y.st, .int .i64 y.fc, .slice B y.data.length d] 24))
  have B1 : Hid (Box ((w.alloc (.cells #[.int .i64 x.st, .int .i64 x.fc, .slice A x.data.length c] 24)).alloc (.cells #[.int .i64 y.st, .int .i64 y.fc, .slice B y.data.length d] 24)) w.heap.size x A c) := heap_alloc2_old w _ _
  have B2 : Hid (Box ((w.alloc (.cells #[.int .i64 x.st, .int .i64 x.fc, .slice A x.data.length c] 24)).alloc (.cells #[.int .i64 y.st, .int .i64 y.fc, .slice B y.data.length d] 24)) (w.heap.size + 1) y B d) := heap_alloc2_new w _ _
  have HB := Lib.hid (str_beq x.data y.data)
  unfold zv sameZ at *
  clear h1 h2
  go_enter Try.func16, Try.ntmps16
  go_upto_region 1 with fail
  generalize (w.alloc (.cells #[.int .i64 x.st, .int .i64 x.fc, .slice A x.data.length c] 24)).alloc (.cells #[.int .i64 y.st, .int .i64 y.fc, .slice B y.data.length d] 24) = w1 at *
  have s1 := run_str (hw w1 L1.out).out.1
  have s2 := run_str (hw w1 L1.out).out.2
  obtain ⟨c0, c1, c2⟩ := B1.out.cells
  obtain ⟨d0, d1, d2⟩ := B2.out.cells
  generalize str x.data = sx at *
  generalize str y.data = sy at *
  rcases e0 : (x.st == y.st)
  · go_wp2_with fail
    go_ret
    exact ⟨ret_bool (by rw [e0]; rfl), L1.out⟩
  · rcases e1 : (x.fc == y.fc)
    · go_wp2_with fail
      go_ret
      exact ⟨ret_bool (by rw [e0, e1]; rfl), L1.out⟩
    · go_wp2_with fail
      go_ret
      refine ⟨ret_bool ?_, L1.out⟩
      rw [e0, e1, ← HB.out]
      rfl
end Zon
end Go.Proofs.Ytfcehlipbdngbaa
