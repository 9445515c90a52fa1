/-
  WALKS: Gaps.
-/
import Derived.Test.YthahemffeagifaaExtPut
import Derived.Test.YthahemffeagifaaExtSame
namespace Go.Proofs.Ythahemffeagifaa
open Go.RowKit Mem
namespace Ext
theorem own_far {base g : Nat} {w : World} {s : Value} {n : Nat} {l : List Ex} {t : TypeId} {cs : Array Value} (h : OwnsL base w s n l) (hc : Cells w g t cs) (ht : t ≠ 28) : s.ownBlock ≠ some g := by
  intro e
  rcases h.1.2 with ⟨rfl, -⟩ | ⟨q, cap, cur, rfl, -, hq, -⟩
  · cases e
  · have e : some q = some g := e
    injection e with e
    subst e
    have hc' : w.heap[q]? = some (.cells cs t (0, 0)) := hc
    rw [hc'] at hq
    injection hq with hq
    injection hq with h1 h2
    exact ht h2
/-- What upTo's boxes hold: the gaps in block g, from in block q. -/
structure Up (base g q : Nat) (w : World) (f : Int) (out : List Ex) : Prop where
  gaps : ∃ X j d, Cells w g 22 #[.slice X j d] ∧ OwnsL base w (.slice X j d) j out
  from_ : OneBox w q 3 (.int .i64 f)

set_option maxRecDepth 100000 in
set_option maxHeartbeats 6400000 in
theorem upTo_any {base g q : Nat} {w : World} {f u : Int} {X : Option Addr} {j d : Nat} {out : List Ex} (hg : Cells w g 22 #[.slice X j d]) (hO : OwnsL base w (.slice X j d) j out) (hq : OneBox w q 3 (.int .i64 f)) (hbg : base ≤ g) (hj : j ≤ 3000000) (hf : 0 ≤ f) (hf2 : f ≤ 1099511627776) (ht : 0 ≤ u) (ht2 : u ≤ 1099511627776) :
    Calls Try.prog 31 #[.int .i64 u, .pointer (some ⟨q, 0, none⟩), .pointer (some ⟨g, 0, none⟩)] w fun e w' => e = .returned (.tuple #[]) ∧ (∃ X' j' d', Cells w' g 22 #[.slice X' j' d'] ∧ OwnsL base w' (.slice X' j' d') j' (out ++ gap f u) ∧ ∀ k, (Value.slice X' j' d').ownBlock = some k → (Value.slice X j d).ownBlock = some k ∨ w.heap.size ≤ k) ∧ OneBox w' q 3 (.int .i64 f) ∧ Below base w w' ∧
      ∀ k, k < w.heap.size → k ≠ g → (Value.slice X j d).ownBlock ≠ some k → w'.heap[k]? = w.heap[k]? := by
  have m0 := OneBox.cells hq
  have m1 : w.cell? ⟨g, 0, none⟩ = some (.slice X j d) := Cells.cell hg 0
  have HG := Lib.hid hg
  have HO := Lib.hid hO
  have HQ := Lib.hid hq
  have HBG := Lib.hid hbg
  have hgq : Hid (g ≠ q) := fun e => by
    subst e
    have h1 : w.heap[g]? = some (.cells #[.slice X j d] 22 (0, 0)) := hg
    have h2 : w.heap[g]? = some (.cells #[.int .i64 f] 3 (0, 0)) := hq
    rw [h1] at h2
    injection h2 with h2
    injection h2 with h2 h3
    exact absurd h3 (by decide)
  have hw : IntKind.i64.wrap (u - f) = u - f := wrap_small (by omega) (by omega)
  clear hg hO hq hbg
  rcases e1 : decide (f < u)
  · have HE : Hid (gap f u = []) := by show _ = _; unfold gap; rw [e1]; rfl
    go_enter Try.func31, Try.ntmps31
    go_wp2_with fail
    refine bodyPost_end (results_none rfl _ _ _) rfl ?_
    exact ⟨rfl, ⟨X, j, d, HG.out, by rw [HE.out, List.append_nil]; exact HO.out, fun k hk => .inl hk⟩, HQ.out, Below.refl _ _, fun k _ _ _ => rfl⟩
  · have HE : Hid (gap f u = [⟨f, u - f, 0, -1, 0⟩]) := by show _ = _; unfold gap; rw [e1]; rfl
    have A1 : Hid (Below w.heap.size w (w.alloc (.cells #[.int .i64 f, .int .i64 (u - f), .int .i64 0, .int .i64 (-1), .int .i64 0] 28))) := (Below.refl _ w).alloc (Nat.le_refl _) _
    have N1 : Hid (LBox (w.alloc (.cells #[.int .i64 f, .int .i64 (u - f), .int .i64 0, .int .i64 (-1), .int .i64 0] 28)) w.heap.size ⟨f, u - f, 0, -1, 0⟩) := Cells.new _ _ _
    have O1 := Lib.hid (OwnsL.alloc HO.out (.cells #[.int .i64 f, .int .i64 (u - f), .int .i64 0, .int .i64 (-1), .int .i64 0] 28))
    have G1 := Lib.hid (Cells.alloc HG.out (.cells #[.int .i64 f, .int .i64 (u - f), .int .i64 0, .int .i64 (-1), .int .i64 0] 28))
    have Q1 := Lib.hid (Cells.alloc HQ.out (.cells #[.int .i64 f, .int .i64 (u - f), .int .i64 0, .int .i64 (-1), .int .i64 0] 28))
    have HBS : Hid (base ≤ w.heap.size) := Nat.le_trans HBG.out (Nat.le_of_lt (Cells.lt HG.out))
    go_enter Try.func31, Try.ntmps31
    go_wp2_with (at_builtin
                 refine wpList_append_l rfl (.tmp 7) (.tmp 13) rfl rfl base (.slice X j d) j out rfl O1.out _ 1 1 [⟨f, u - f, 0, -1, 0⟩] rfl (RowS.one N1.out) (by omega) (Nat.le_trans HBS.out A1.out.size) ?_
                 intro A' c' w2 h1 h2 h3
                 have O2 := Lib.hid h1
                 have G2 := Lib.hid h2
                 have Z2 := Lib.hid h3
                 have C2 := Lib.hid (Cells.grown G1.out h2 (own_far O1.out G1.out (by decide)))
                 have D2 := Lib.hid (Cells.grown Q1.out h2 (own_far O1.out Q1.out (by decide)))
                 have p1 : w2.cell? ⟨g, 0, none⟩ = some (.slice X j d) := Cells.cell C2.out 0
                 have p2 : w2.frozen? ⟨g, 0, none⟩ = false := Cells.frozen C2.out 0
                 clear h1 h2 h3)
    refine bodyPost_end (results_none rfl _ _ _) rfl ?_
    have hfar := own_far O2.out C2.out (by decide)
    have B2 : Below base w w2 := (A1.out.mono HBS.out).trans (below_row O1.out G2.out (Nat.le_trans HBS.out A1.out.size))
    refine ⟨rfl, ⟨A', j + 1, c', Cells.set_ C2.out 0 _, ?_, fun k hk => ?_⟩, Cells.set_other D2.out hgq.out 0 _, belowk B2 HBG.out 0 _, fun k hk hne hno => ?_⟩
    · rw [HE.out]
      exact OwnsL.kept O2.out (But.set1 _ g 0 _).by_ (.inr hfar)
    · rcases Z2.out with h | h
      · left; rw [← h]; exact hk
      · right
        rw [hk] at h
        injection h with h
        have := A1.out.size
        omega
    · have h1 : (w2.setCell ⟨g, 0, none⟩ (.slice A' (j + 1) c')).heap[k]? = w2.heap[k]? := Below.heap_setCell _ _ _ _ (fun e => hne e)
      rw [h1]
      exact (G2.out.block k (Nat.lt_of_lt_of_le hk A1.out.size) (fun e => hno e.symm)).trans (A1.out.block k hk)

def gapT : Int → List Ex → List Ex
  | _, [] => []
  | f, x :: r => gap f x.lba ++ gapT x.en r
theorem gapT_app (f : Int) (a : List Ex) (x : Ex) : gapT f (a ++ [x]) = gapT f a ++ gap (endF f a) x.lba := by
  induction a generalizing f with
  | nil => show gap f x.lba ++ [] = [] ++ gap f x.lba; rw [List.append_nil, List.nil_append]
  | cons y r ih => rw [List.cons_append, gapT, ih, gapT, endF, List.append_assoc]
theorem gapF_T (t f : Int) (p : List Ex) : gapF t f p = gapT f p ++ gap (endF f p) t := by
  induction p generalizing f with
  | nil => rfl
  | cons y r ih => rw [gapF, ih, gapT, endF, List.append_assoc]
theorem gapT_len (f : Int) (p : List Ex) (k : Nat) : (gapT f (p.take k)).length ≤ p.length + 1 := by
  have h1 := gaps_len 0 f (p.take k)
  rw [gapF_T, List.length_append] at h1
  have : (p.take k).length ≤ p.length := by rw [List.length_take]; omega
  omega
def gapsP (l : List Ex) (a k : Int) : List Ex := gapF (a + k) a (clips a (a + k) l)

set_option maxRecDepth 100000 in
set_option maxHeartbeats 12800000 in
theorem gaps_any {A : Option Addr} {n c : Nat} {l : List Ex} {w : World} (hA : RowL w A n c l) (hl : Ok 0 l) (hn : n ≤ 1000000) (a k : Int) (hk : k ≤ 9223372036854775807) :
    Calls Try.prog 17 #[.slice A n c, .int .i64 a, .int .i64 k] w (GaveE w (bif rangeB a k then gapsP l a k else []) (errOf (rangeB a k))) := by
  have HA := Lib.hid hA
  have HP := fun w (h : RowL w A n c l) => Lib.hid (part_any h hl hn a k hk)
  have HPL : Hid ((clips a (a + k) l).length ≤ 1000000) := by have := clips_len a (a + k) l; have := hA.len; show _ ≤ _; omega
  have HPO : Hid (Ok a (clips a (a + k) l)) := ok_clips hl (by omega)
  clear hA hl
  rcases hr : rangeB a k
  · rw [hr] at HP
    clear hr
    have he : errOf false = 1 := rfl
    simp only [he, cond_false] at *
    go_enter Try.func17, Try.ntmps17
    go_wp2_with fail
    refine (HP w HA.out).out.mono ?_
    rintro e w2 ⟨⟨B, m, d, rfl, hO⟩, hb⟩
    have L2 := Lib.hid hb
    clear hO hb
    go_wp2_with fail
    go_ret2
    exact ⟨⟨_, _, _, rfl, OwnsL.nil _ _⟩, L2.out⟩
  · obtain ⟨r1, r2, r3⟩ := rangeB_iff.1 hr
    have HRG := Lib.hid (And.intro r1 (And.intro r2 r3))
    have hw : IntKind.i64.wrap (a + k) = a + k := wrap_small (by omega) (by omega)
    rw [hr] at HP
    clear hr r1 r2 r3
    have he : errOf true = 0 := rfl
    have HGP : Hid (gapsP l a k = gapF (a + k) a (clips a (a + k) l)) := rfl
    simp only [he, cond_true] at *
    generalize gapsP l a k = R at *
    generalize clips a (a + k) l = P at *
    go_enter Try.func17, Try.ntmps17
    go_wp2_with fail
    refine (HP w HA.out).out.mono ?_
    rintro e w2 ⟨⟨B, m, d, rfl, hO⟩, hb⟩
    have L2 := Lib.hid hb
    have hm : m ≤ 1000000 := by have := hO.2; have := HPL.out; omega
    have hml := Lib.hid hO.2
    have R2 := Lib.hid (OwnsL.row hO (by omega))
    clear hO hb HP
    have hne : w2.heap.size + 1 ≠ w2.heap.size := by omega
    have L3 : Hid (Below w2.heap.size w2 ((w2.alloc (.cells #[.slice none 0 0] 22)).alloc (.cells #[.int .i64 a] 3))) := ((Below.refl _ w2).alloc (Nat.le_refl _) _).alloc (by simp) _
    have G3 : Hid (Cells ((w2.alloc (.cells #[.slice none 0 0] 22)).alloc (.cells #[.int .i64 a] 3)) w2.heap.size 22 #[.slice none 0 0]) := Cells.alloc (Cells.new _ _ _) _
    have Q3 : Hid (OneBox ((w2.alloc (.cells #[.slice none 0 0] 22)).alloc (.cells #[.int .i64 a] 3)) (w2.heap.size + 1) 3 (.int .i64 a)) := by
      have h := Cells.new (w2.alloc (.cells #[.slice none 0 0] 22)) #[.int .i64 a] 3
      show OneBox _ _ _ _
      simpa using h
    go_upto_region 7 with fail
    generalize (w2.alloc (.cells #[.slice none 0 0] 22)).alloc (.cells #[.int .i64 a] 3) = w3 at *
    clear hw
    have hbig : m ≤ 140737488351232 := by omega
    go_wp2_with fail
    go_loopw [14, 29] (fun _ i wr => ∃ (t : Nat), i = .int .i64 t ∧ t ≤ m ∧ Hid (Below w2.heap.size w2 wr ∧ (∃ X j d, Cells wr w2.heap.size 22 #[.slice X j d] ∧ OwnsL w2.heap.size wr (.slice X j d) j (gapT a (P.take t))) ∧ OneBox wr (w2.heap.size + 1) 3 (.int .i64 (endF a (P.take t))))) (fun _ i _ => m - (intOf i).toNat)
    case atStart => exact ⟨0, rfl, by omega, L3.out, ⟨none, 0, 0, G3.out, OwnsL.nil _ _⟩, Q3.out⟩
    case round =>
      obtain ⟨t, rfl, ht, hH⟩ := hrel
      obtain ⟨h1, ⟨X, j, dd, h2, h3⟩, h4⟩ := hH.out
      have LR := Lib.hid h1
      have GR := Lib.hid h2
      have OR := Lib.hid h3
      have QR := Lib.hid h4
      have HJ : Hid (j ≤ 3000000) := by have := h3.2; have := gapT_len a P t; have := HPL.out; show _ ≤ _; omega
      have HF : Hid (0 ≤ endF a (P.take t) ∧ endF a (P.take t) ≤ 1099511627776) := by
        have := endF_in (ok_take HPO.out t) (by have := HRG.out; omega)
        have := HRG.out.1
        show _ ∧ _
        omega
      clear h1 h2 h3 h4 hH
      by_cases hlt : t < m
      · obtain ⟨x, hx⟩ := R2.out.get hlt
        obtain ⟨b, o, hA, d0, d1, d2, d3, d4⟩ := RowS.ext_at (R2.out.below LR.out) hx
        subst hA
        have HMX := Lib.hid (HPO.out.at_ hx).1
        have hk0 : (0 : Int) ≤ (t : Int) := by omega
        have hkn : (t : Int) < (m : Int) := by omega
        have HT : Hid (gapT a (P.take (t + 1)) = gapT a (P.take t) ++ gap (endF a (P.take t)) x.lba) := by show _ = _; rw [take_snoc hx, gapT_app]
        have HEN : Hid (endF a (P.take (t + 1)) = x.en) := by show _ = _; rw [take_snoc hx, endF_app]; rfl
        have HE := fun w => Lib.hid (end_any x HMX.out w)
        clear hx
        generalize endF a (P.take t) = f at *
        generalize gapT a (P.take t) = GT at *
        have A4 : Hid (Below wr.heap.size wr (wr.alloc (.cells #[.int .i64 x.lba, .int .i64 x.n, .int .i64 x.ver, .int .i64 x.zone, .int .i64 x.off] 28))) := (Below.refl _ wr).alloc (Nat.le_refl _) _
        have B4 : Hid (LBox (wr.alloc (.cells #[.int .i64 x.lba, .int .i64 x.n, .int .i64 x.ver, .int .i64 x.zone, .int .i64 x.off] 28)) wr.heap.size x) := Cells.new _ _ _
        obtain ⟨n0, n1, n2, n3, n4⟩ := LBox.cells B4.out
        go_upto_region 10 with fail
        generalize wr.alloc (.cells #[.int .i64 x.lba, .int .i64 x.n, .int .i64 x.ver, .int .i64 x.zone, .int .i64 x.off] 28) = w4 at *
        clear d0 d1 d2 d3 d4
        have G4 := Lib.hid (Cells.below GR.out A4.out)
        have O4 := Lib.hid (OwnsL.below OR.out A4.out)
        have Q4 := Lib.hid (Cells.below QR.out A4.out)
        have L4 := Lib.hid (LR.out.trans (A4.out.mono LR.out.size))
        have NE : Hid (wr.heap.size ≠ w2.heap.size ∧ (Value.slice X j dd).ownBlock ≠ some wr.heap.size) := ⟨by have := Cells.lt GR.out; omega, fun e => by have h1 := (OwnsL.lt OR.out _ e).2; omega⟩
        go_wp2_with fail
        refine (upTo_any G4.out O4.out Q4.out (Nat.le_refl _) HJ.out HF.out.1 HF.out.2 HMX.out.1 (by have := en_lt HMX.out; have := en_le HMX.out; omega)).mono ?_
        rintro e w5 ⟨rfl, ⟨X', j', d', hG, hO, -⟩, hQ, hb, hfr⟩
        have X5 : Hid (LBox w5 wr.heap.size x) := (hfr _ (Cells.lt B4.out) NE.out.1 NE.out.2).trans B4.out
        have G5 := Lib.hid hG
        have O5 := Lib.hid hO
        have Q5 := Lib.hid hQ
        have L5 := Lib.hid (L4.out.trans hb)
        clear hG hO hQ hb hfr n0 n1 n2 n3 n4
        obtain ⟨n0, n1, n2, n3, n4⟩ := LBox.cells X5.out
        go_upto_region 11 with fail
        go_wp2_with (go_at_call 32; refine (HE _).out.mono ?_; rintro e' w6 ⟨rfl, hb⟩; have L6 := Lib.hid (L5.out.trans (hb.mono L5.out.size)); have G6 := Lib.hid (Cells.below G5.out hb); have O6 := Lib.hid (OwnsL.below O5.out hb); have Q6 := Lib.hid (Cells.below Q5.out hb); clear hb; have p1 : w6.cell? ⟨w2.heap.size + 1, 0, none⟩ = some (.int .i64 f) := Cells.cell Q6.out 0; have p2 : w6.frozen? ⟨w2.heap.size + 1, 0, none⟩ = false := Cells.frozen Q6.out 0)
        go_roundw
        case rel =>
          refine ⟨t + 1, by go_num, by omega, belowk L6.out (Nat.le_succ _) 0 _, ⟨X', j', d', Cells.set_other G6.out hne 0 _, ?_⟩, ?_⟩
          · rw [HT.out]
            exact OwnsL.kept O6.out (But.set1 _ _ 0 _).by_ (.inr (own_far O6.out Q6.out (by decide)))
          · rw [HEN.out]
            exact Cells.set_ Q6.out 0 _
        case measure => simp [intOf]; omega
      · have hkn : P.take t = P := List.take_of_length_le (by have := hml.out; omega)
        rw [hkn] at OR QR HF
        clear hkn
        have hw : IntKind.i64.wrap (a + k) = a + k := wrap_small (by have := HRG.out; omega) (by have := HRG.out; omega)
        go_wp2_with fail
        refine (upTo_any GR.out OR.out QR.out (Nat.le_refl _) HJ.out HF.out.1 HF.out.2 (by have := HRG.out; omega) HRG.out.2.2).mono ?_
        rintro e w5 ⟨rfl, ⟨X', j', d', hG, hO, -⟩, hQ, hb, -⟩
        have m5 : w5.cell? ⟨w2.heap.size, 0, none⟩ = some (.slice X' j' d') := Cells.cell hG 0
        have L5 := Lib.hid (L2.out.trans ((LR.out.trans hb).mono L2.out.size))
        have O5 := Lib.hid (hO.mono L2.out.size)
        clear hG hO hQ hb
        go_wp2_with fail
        go_ret2
        refine ⟨⟨_, _, _, rfl, ?_⟩, L5.out⟩
        rw [HGP.out, gapF_T]
        exact O5.out
end Ext
end Go.Proofs.Ythahemffeagifaa
