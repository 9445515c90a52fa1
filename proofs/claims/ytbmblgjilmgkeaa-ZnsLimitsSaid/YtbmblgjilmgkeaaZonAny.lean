/-
  zone.Torn AND zone.Append, WHATEVER COMES.
-/
import Derived.Test.YtbmblgjilmgkeaaZonRefA
namespace Go.Proofs.Ytbmblgjilmgkeaa
open Go.RowKit Mem
namespace Zon
theorem torn_any {z : Zn} {D : Option Addr} {c : Nat} {most : Int} {b : List B8} {d : Nat} {B : Option Addr} {keep : Int} {w : World} (h1 : Row cb w D z.data.length c z.data) (h2 : Row cb w B b.length d b) :
    Calls Try.prog 53 #[zv z D c, .int .i64 most, .slice B b.length d, .int .i64 keep] w (GaveZ w (tornZ z most b keep) [.int .i64 (tornErr z most b keep)]) := by
  unfold tornZ tornErr
  rcases e0 : (appErr z most b.length == 0)
  · have hne := beq_eq_false_iff_ne.1 e0
    simp only [cond_false, e0]
    exact torn_bad h2.big rfl hne
  · have he := beq_iff_eq.1 e0
    simp only [cond_true]
    rcases ek : (decide (keep < 0) || decide ((b.length : Int) < keep))
    · simp only [Bool.or_eq_false_iff, decide_eq_false_iff_not] at ek
      have e1 : ((0 : Int) == 0) = true := rfl
      simp only [cond_false, e1, cond_true]
      rcases k0 : (keep == 0)
      · obtain ⟨k, rfl⟩ := Int.eq_ofNat_of_zero_le (show 0 ≤ keep by omega)
        have := beq_eq_false_iff_ne.1 k0
        exact torn_some he h1 h2 (by omega) (by omega)
      · obtain rfl := beq_iff_eq.1 k0
        exact torn_none h2.big he h1
    · simp only [Bool.or_eq_true, decide_eq_true_eq] at ek
      exact torn_keep h2.big he ek
/-- What an append gives, its error, and where its bytes begin. -/
def appRes (z : Zn) (most : Int) (b : List B8) : Zn := bif appErr z most b.length == 0 then appZ z most b else nilZ
def appAt (z : Zn) (most : Int) (n : Nat) : Int := bif appErr z most n == 0 then z.len else 0
theorem append_any {z : Zn} {D : Option Addr} {c : Nat} {most : Int} {b : List B8} {d : Nat} {B : Option Addr} {w : World} (h1 : Row cb w D z.data.length c z.data) (h2 : Row cb w B b.length d b) :
    Calls Try.prog 50 #[zv z D c, .int .i64 most, .slice B b.length d] w (GaveZ w (appRes z most b) [.int .i64 (appAt z most b.length), .int .i64 (appErr z most b.length)]) := by
  unfold appRes appAt
  rcases e0 : (appErr z most b.length == 0)
  · exact append_bad h2.big rfl (beq_eq_false_iff_ne.1 e0)
  · have he := beq_iff_eq.1 e0
    rw [he]
    exact append_ok h1 h2 he
end Zon
end Go.Proofs.Ytbmblgjilmgkeaa
