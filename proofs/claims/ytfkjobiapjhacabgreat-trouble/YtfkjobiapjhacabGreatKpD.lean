/- Contracts of package gatewaykeep: TCP messages, echoes. Own work. -/
import Derived.Test.YtfkjobiapjhacabGreatKpC
namespace Go.Proofs.YtfkjobiapjhacabGreat
open Go.RowKit
attribute [local go_sem ↓] Go.wp_at_zero Go.wp_at_succ

def tcp0 (fr to' fg : Int) (data : ByteArray) : ByteArray := wideI fr 2 ++ wideI to' 2 ++ ⟨#[0, 0, 0, 5, 0, 0, 0, 6, 80]⟩ ++ wideI fg 1 ++ ⟨#[17, 17, 0, 0, 0, 0]⟩ ++ data
theorem tcp0_size (fr to' fg : Int) (data : ByteArray) : (tcp0 fr to' fg data).size = 20 + data.size := by
  simp only [tcp0, ByteArray.size_append, wideI_size]
  show 2 + 2 + 9 + 1 + 6 + data.size = _
  omega
def tcpB (src fr dst to' fg : Int) (data : ByteArray) : ByteArray := kseal (tcp0 fr to' fg data) 16 (befM 6 src dst (tcp0 fr to' fg data).size)
def tcpP (src fr dst to' fg : Int) (data : ByteArray) : PK := ⟨8, 0, 0, 9, 6, src, dst, tcpB src fr dst to' fg data⟩
end Go.Proofs.YtfkjobiapjhacabGreat
