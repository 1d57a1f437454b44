/- Rest: the walk. Own work. -/
import Derived.Test.YtfkjobiapjhacabGreatKpH
namespace Go.Proofs.YtfkjobiapjhacabGreat
open Go.RowKit
attribute [local go_sem ↓] Go.wp_at_zero Go.wp_at_succ

theorem val_mk (i1 i2 i3 i4 i5 i6 i7 : Int) (B : ByteArray) : (⟨i1, i2, i3, i4, i5, i6, i7, B⟩ : PK).val = .agg #[.int .i64 i1, .int .i64 i2, .int .i64 i3, .int .i64 i4, .int .i64 i5, .int .i64 i6, .int .i64 i7, .string B] := rfl
end Go.Proofs.YtfkjobiapjhacabGreat
