/- Contracts of package gatewaykeep: TCP messages, echoes. Own work. -/
import Derived.Test.YtfkjobiapjhacaaGreatKpC
namespace Go.Proofs.YtfkjobiapjhacaaGreat
open Go.RowKit
attribute [local go_sem ↓] Go.wp_at_zero Go.wp_at_succ

def tcp0 (fr to' fg : Int) (data : ByteArray) : ByteArray := wideI fr 2 ++ wideI to' 2 ++ ⟨#[0, 0, 0, 5, 0, 0, 0, 6, 80]⟩ ++ wideI fg 1 ++ ⟨#[17, 17, 0, 0, 0, 0]⟩ ++ data
theorem tcp0_size (fr to' fg : Int) (data : ByteArray) : (tcp0 fr to' fg data).size = 20 + data.size := by
  simp only [tcp0, ByteArray.size_append, wideI_size]
  show 2 + 2 + 9 + 1 + 6 + data.size = _
  omega
def tcpB (src fr dst to' fg : Int) (data : ByteArray) : ByteArray := kseal (tcp0 fr to' fg data) 16 (befM 6 src dst (tcp0 fr to' fg data).size)
def tcpP (src fr dst to' fg : Int) (data : ByteArray) : PK := ⟨8, 0, 0, 9, 6, src, dst, tcpB src fr dst to' fg data⟩
set_option maxRecDepth 100000 in
set_option maxHeartbeats 1000000 in
theorem tcp_any (src fr dst to' fg : Int) (data : ByteArray) (w : World) (hs : data.size ≤ 900) :
    Calls Tryz.prog 36 #[.int .i64 src, .int .i64 fr, .int .i64 dst, .int .i64 to', .int .i64 fg, .string data] w fun e w' => e = .returned (tcpP src fr dst to' fg data).val ∧ Below w.heap.size w w' := by
  have hM : Hid (KMid w (w.alloc (.cells #[.int .i64 0, .int .i64 0, .int .i64 0, .int .i64 0, .int .i64 0, .int .i64 0, .int .i64 0, .string ⟨#[]⟩] 31)) w.heap.size #[.int .i64 0, .int .i64 0, .int .i64 0, .int .i64 0, .int .i64 0, .int .i64 0, .int .i64 0, .string ⟨#[]⟩] 31) := KMid.start w _ _
  obtain ⟨⟨r0, r1, r2, r3, r4, r5, r6, r7⟩, rf⟩ := c8 hM.out.bk
  have hz1 : ∀ v, (wideI v 1).size = 1 := fun v => wideI_size v 1
  have hz2 : ∀ v, (wideI v 2).size = 2 := fun v => wideI_size v 2
  have HBF : Hid (∀ w, Calls Tryz.prog 42 #[.agg #[.int .i64 8, .int .i64 0, .int .i64 0, .int .i64 9, .int .i64 6, .int .i64 src, .int .i64 dst, .string (wideI fr 2 ++ wideI to' 2 ++ ⟨#[0, 0, 0, 5, 0, 0, 0, 6, 80]⟩ ++ wideI fg 1 ++ ⟨#[17, 17, 0, 0, 0, 0]⟩ ++ data)]] w fun e w' => e = .returned (.string (befM 6 src dst (tcp0 fr to' fg data).size)) ∧ Below w.heap.size w w') := fun w => kbefore_any ⟨8, 0, 0, 9, 6, src, dst, tcp0 fr to' fg data⟩ w
  have HSE : Hid (∀ w, Calls Tryz.prog 43 #[.string (wideI fr 2 ++ wideI to' 2 ++ ⟨#[0, 0, 0, 5, 0, 0, 0, 6, 80]⟩ ++ wideI fg 1 ++ ⟨#[17, 17, 0, 0, 0, 0]⟩ ++ data), .int .i64 16, .string (befM 6 src dst (tcp0 fr to' fg data).size)] w fun e w' => e = .returned (.string (tcpB src fr dst to' fg data)) ∧ Below w.heap.size w w') := fun w =>
    ksealed_any (tcp0 fr to' fg data) 16 _ w (by rw [tcp0_size]; omega) (by rw [tcp0_size]; omega) (by rw [befM_size]; decide)
  have HU : Hid ((tcpP src fr dst to' fg data).val = .agg #[.int .i64 8, .int .i64 0, .int .i64 0, .int .i64 9, .int .i64 6, .int .i64 src, .int .i64 dst, .string (tcpB src fr dst to' fg data)]) := by show _ = _; simp only [tcpP, PK.val]
  generalize befM 6 src dst (tcp0 fr to' fg data).size = bm at HBF HSE
  generalize tcpB src fr dst to' fg data = U at HSE HU
  go_enter Tryz.func36, Tryz.ntmps36
  go_wp2_with (go_at_call 41; refine (wideI_any _ _ _ (by decide) (by decide)).mono ?_; rintro e w1 ⟨rfl, hb1⟩; have hM1 := hM.out.call hb1; clear hM hb1 r0 r1 r2 r3 r4 r5 r6 r7 rf; obtain ⟨⟨r0, r1, r2, r3, r4, r5, r6, r7⟩, rf⟩ := c8 hM1.bk; have hM : Hid _ := hM1; clear hM1)
  refine (HBF.out _).mono ?_
  rintro e w2 ⟨rfl, hb2⟩
  have h2 := (K2.of hM.out _).call hb2
  have hne : w1.heap.size ≠ w.heap.size := h2.ne.symm
  have hle := h2.le
  clear hM hb2 r0 r1 r2 r3 r4 r5 r6 r7 rf
  have H2 : Hid (K2 w w2 w.heap.size #[.int .i64 0, .int .i64 0, .int .i64 0, .int .i64 0, .int .i64 0, .int .i64 0, .int .i64 0, .string ⟨#[]⟩] w1.heap.size #[.int .i64 8, .int .i64 0, .int .i64 0, .int .i64 9, .int .i64 6, .int .i64 src, .int .i64 dst, .string (wideI fr 2 ++ wideI to' 2 ++ ⟨#[0, 0, 0, 5, 0, 0, 0, 6, 80]⟩ ++ wideI fg 1 ++ ⟨#[17, 17, 0, 0, 0, 0]⟩ ++ data)] 31) := h2
  clear h2
  obtain ⟨⟨q0, q1, q2, q3, q4, q5, q6, q7⟩, qf⟩ := c8 H2.out.k1
  go_wp2_with fail
  refine (HSE.out _).mono ?_
  rintro e w3 ⟨rfl, hb3⟩
  have H3 : Hid (K2 w (w3.setCell ⟨w1.heap.size, 7, none⟩ (.string U)) w.heap.size #[.int .i64 0, .int .i64 0, .int .i64 0, .int .i64 0, .int .i64 0, .int .i64 0, .int .i64 0, .string ⟨#[]⟩] w1.heap.size #[.int .i64 8, .int .i64 0, .int .i64 0, .int .i64 9, .int .i64 6, .int .i64 src, .int .i64 dst, .string U] 31) := (H2.out.call hb3).set1 7 (.string U)
  have hM3 := H2.out.call hb3
  clear hb3 q0 q1 q2 q3 q4 q5 q6 q7 qf H2
  obtain ⟨⟨q0, q1, q2, q3, q4, q5, q6, q7⟩, qf⟩ := c8 hM3.k1
  obtain ⟨⟨r0, r1, r2, r3, r4, r5, r6, r7⟩, rf⟩ := c8 hM3.k0
  have HE : Hid (Below w.heap.size w w3) := hM3.bl
  clear hM3 H3
  go_wp2_with fail
  refine bodyPost_ret (v := .agg #[.int .i64 8, .int .i64 0, .int .i64 0, .int .i64 9, .int .i64 6, .int .i64 src, .int .i64 dst, .string U]) (by simp [results, Tryz.results36, go_sem, r0, r1, r2, r3, r4, r5, r6, r7]) rfl ⟨by rw [HU.out], ?_⟩
  have hE := HE.out
  repeat first | refine Below.setCell ?_ (by first | exact hle | simp) _ | exact hE
end Go.Proofs.YtfkjobiapjhacaaGreat
