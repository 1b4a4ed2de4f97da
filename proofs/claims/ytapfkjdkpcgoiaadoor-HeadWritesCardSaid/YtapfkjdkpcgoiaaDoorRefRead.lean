/- The reference's NumberRead: what it returns. -/
import Derived.Test.YtapfkjdkpcgoiaaDoorRead
import Derived.Deep.QuietTactic
import Derived.BigQuiet
namespace Go.Proofs.YtapfkjdkpcgoiaaDoor
open Go.RowKit

/-- A number and an error's number. -/
def NumNo (p : Int × Int) (e : Ending) : Prop := e = .returned (.tuple #[.int .i64 p.1, .int .i64 p.2])

theorem below_drewN {B : Nat} {a w : World} (h : Below B a w) (n : Nat) : Below B a (w.drewN n) := ⟨h.os, h.tape, h.output, h.size, h.block⟩

/-- the low half of a negative number's two's complement. -/
def lowN (n : Int) : Int := n + 18446744073709551616
theorem lowN_quo (n : Int) (h1 : -72057594037927936 ≤ n) (h2 : n < 0) : bits .or .u64 18446744073709551360 (lowN n / 72057594037927936) = 18446744073709551615 := by
  rw [show lowN n / 72057594037927936 = 255 by unfold lowN; omega]
  exact oru_256 72057594037927935 255 (by omega) (by omega) (by omega) (by omega)
theorem lowN_quo2 (n : Int) (h1 : -9223372036854775808 ≤ n) (h2 : n < -72057594037927936) : ∃ x, bits .or .u64 18446744073709551360 (lowN n / 72057594037927936) = x ∧ (x == 18446744073709551615) = false ∧ (x != 18446744073709551615) = true := by
  have h := oru_256 72057594037927935 (lowN n / 72057594037927936) (by omega) (by omega) (by unfold lowN; omega) (by unfold lowN; omega)
  have hx : lowN n / 72057594037927936 ≤ 254 := by unfold lowN; omega
  refine ⟨_, h, ?_, ?_⟩
  · rw [beq_eq_false_iff_ne]; omega
  · rw [bne_iff_ne]; omega
theorem lowN_shl (n : Int) (h1 : -72057594037927936 ≤ n) (h2 : n < 0) : IntKind.u64.wrap (lowN n * 256) = (n + 72057594037927936) * 256 := by
  have : IntKind.u64.wrap (lowN n * 256) = (lowN n * 256) % 18446744073709551616 := by
    simp only [IntKind.wrap, IntKind.bits, IntKind.signed]; simp
  rw [this]; unfold lowN; omega
theorem lowN_join (n b : Int) (h1 : -72057594037927936 ≤ n) (h2 : n < 0) (h3 : 0 ≤ b) (h4 : b < 256) : bits .or .u64 ((n + 72057594037927936) * 256) b = lowN (n * 256 + b) := by
  rw [oru_256 _ b (by omega) (by omega) h3 h4]; unfold lowN; omega
theorem high_shl : IntKind.u64.wrap 4722366482869645213440 = 18446744073709551360 := by
  simp only [IntKind.wrap, IntKind.bits, IntKind.signed]; simp
theorem lowN_neg1 : (18446744073709551615 : Int) = lowN (-1) := by unfold lowN; omega
theorem lowN_back (n : Int) (h1 : -9223372036854775808 ≤ n) (h2 : n < 0) : IntKind.i64.wrap (lowN n) = n := by
  rw [IntKind.wrap_i64]; unfold lowN; omega

end Go.Proofs.YtapfkjdkpcgoiaaDoor
