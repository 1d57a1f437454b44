/- Own work. -/
import Derived.Test.YtfkjobiapjhacabGreatK1
import Derived.Test.YtfkjobiapjhacabGreatS2
/- Contracts of package gatewaykeep: messages. Own work. -/
namespace Go.Proofs.YtfkjobiapjhacabGreat
open Go.RowKit
attribute [local go_sem ↓] Go.wp_at_zero Go.wp_at_succ

def btwB (p : PK) (src fr dst to' : Int) : Bool := p.src == src && p.dst == dst && wordAt p.body 0 == fr && wordAt p.body 2 == to'
/-- Two blocks that stand, and what lay below. -/
structure K2 (w W : World) (b0 : Nat) (c0 : Array Value) (b1 : Nat) (c1 : Array Value) (t : TypeId) : Prop where
  k0 : W.heap[b0]? = some (.cells c0 t (0, 0))
  k1 : W.heap[b1]? = some (.cells c1 t (0, 0))
  ne : b0 ≠ b1
  le : w.heap.size ≤ b1
  bl : Below w.heap.size w W
theorem K2.call {w W W' : World} {b0 b1 : Nat} {c0 c1 : Array Value} {t : TypeId} (h : K2 w W b0 c0 b1 c1 t) (hb : Below W.heap.size W W') : K2 w W' b0 c0 b1 c1 t := ⟨blk hb h.k0, blk hb h.k1, h.ne, h.le, h.bl.trans (hb.mono h.bl.size)⟩
theorem K2.set1 {w W : World} {b0 b1 : Nat} {c0 c1 : Array Value} {t : TypeId} (h : K2 w W b0 c0 b1 c1 t) (j : Nat) (v : Value) : K2 w (W.setCell ⟨b1, j, none⟩ v) b0 c0 b1 (c1.setIfInBounds j v) t :=
  ⟨by rw [hget_set _ _ _ _ _ _ _ h.k1, if_neg h.ne]; exact h.k0, by rw [hget_set _ _ _ _ _ _ _ h.k1, if_pos rfl], h.ne, h.le, h.bl.setCell h.le _⟩
theorem K2.of {w W : World} {b0 : Nat} {c0 : Array Value} {t : TypeId} (h : KMid w W b0 c0 t) (c1 : Array Value) : K2 w (W.alloc (.cells c1 t)) b0 c0 W.heap.size c1 t :=
  ⟨(h.alloc _).bk, by rw [hget_alloc, if_pos rfl], by have := lt_of_block h.bk; omega, h.bl.size, (h.alloc _).bl⟩

theorem putFF (U : ByteArray) : putWord U 6 65535 = U.extract 0 6 ++ ⟨#[255, 255]⟩ ++ U.extract 8 U.size := by
  unfold putWord
  have e1 : byteOf (65535 / 256) = 255 := by decide
  have e2 : byteOf 65535 = 255 := by decide
  rw [e1, e2]
def udp0 (fr to' : Int) (data : ByteArray) : ByteArray := wideI fr 2 ++ wideI to' 2 ++ wideI (8 + (data.size : Int)) 2 ++ ⟨#[0, 0]⟩ ++ data
theorem udp0_size (fr to' : Int) (data : ByteArray) : (udp0 fr to' data).size = 8 + data.size := by
  simp only [udp0, ByteArray.size_append, wideI_size]
  show 2 + 2 + 2 + 2 + data.size = _
  omega
def udp1 (src fr dst to' : Int) (data : ByteArray) : ByteArray := kseal (udp0 fr to' data) 6 (befM 17 src dst (udp0 fr to' data).size)
def udpB (src fr dst to' : Int) (data : ByteArray) : ByteArray := if wordAt (udp1 src fr dst to' data) 6 = 0 then putWord (udp1 src fr dst to' data) 6 65535 else udp1 src fr dst to' data
def udpP (src fr dst to' : Int) (data : ByteArray) : PK := ⟨7, 0, 0, 9, 17, src, dst, udpB src fr dst to' data⟩
set_option maxRecDepth 100000 in
set_option maxHeartbeats 1000000 in
theorem udp_any (src fr dst to' : Int) (data : ByteArray) (w : World) (hs : data.size ≤ 900) :
    Calls Tryz.prog 18 #[.int .i64 src, .int .i64 fr, .int .i64 dst, .int .i64 to', .string data] w fun e w' => e = .returned (udpP src fr dst to' data).val ∧ Below w.heap.size w w' := by
  have hM : Hid (KMid w (w.alloc (.cells #[.int .i64 0, .int .i64 0, .int .i64 0, .int .i64 0, .int .i64 0, .int .i64 0, .int .i64 0, .string ⟨#[]⟩] 37)) w.heap.size #[.int .i64 0, .int .i64 0, .int .i64 0, .int .i64 0, .int .i64 0, .int .i64 0, .int .i64 0, .string ⟨#[]⟩] 37) := KMid.start w _ _
  obtain ⟨⟨r0, r1, r2, r3, r4, r5, r6, r7⟩, rf⟩ := c8 hM.out.bk
  have hz2 : ∀ v, (wideI v 2).size = 2 := fun v => wideI_size v 2
  have HBF : Hid (∀ w, Calls Tryz.prog 38 #[.agg #[.int .i64 7, .int .i64 0, .int .i64 0, .int .i64 9, .int .i64 17, .int .i64 src, .int .i64 dst, .string (wideI fr 2 ++ wideI to' 2 ++ wideI (8 + (data.size : Int)) 2 ++ ⟨#[0, 0]⟩ ++ data)]] w fun e w' => e = .returned (.string (befM 17 src dst (udp0 fr to' data).size)) ∧ Below w.heap.size w w') := fun w => kbefore_any ⟨7, 0, 0, 9, 17, src, dst, udp0 fr to' data⟩ w
  have HSE : Hid (∀ w, Calls Tryz.prog 23 #[.string (wideI fr 2 ++ wideI to' 2 ++ wideI (8 + (data.size : Int)) 2 ++ ⟨#[0, 0]⟩ ++ data), .int .i64 6, .string (befM 17 src dst (udp0 fr to' data).size)] w fun e w' => e = .returned (.string (udp1 src fr dst to' data)) ∧ Below w.heap.size w w') := fun w =>
    ksealed_any (udp0 fr to' data) 6 _ w (by rw [udp0_size]; omega) (by rw [udp0_size]; omega) (by rw [befM_size]; decide)
  have hu1 : (udp1 src fr dst to' data).size = 8 + data.size := by unfold udp1 kseal; rw [size_put _ _ _ (by rw [udp0_size]; omega), udp0_size]
  have HAT : Hid (∀ w, Calls Tryz.prog 37 #[.string (udp1 src fr dst to' data), .int .i64 6, .int .i64 2] w fun e w' => e = .returned (.int .i64 (wordAt (udp1 src fr dst to' data) 6)) ∧ w' = w) := fun w => by
    rw [← atNI_two]; exact atI_any _ _ _ w (by decide) (by decide) (by decide) (by decide) (by omega)
  have HU : Hid ((udpP src fr dst to' data).val = .agg #[.int .i64 7, .int .i64 0, .int .i64 0, .int .i64 9, .int .i64 17, .int .i64 src, .int .i64 dst, .string (if wordAt (udp1 src fr dst to' data) 6 = 0 then putWord (udp1 src fr dst to' data) 6 65535 else udp1 src fr dst to' data)]) := by show _ = _; simp only [udpP, PK.val, udpB]
  have HPW : Hid (putWord (udp1 src fr dst to' data) 6 65535 = (udp1 src fr dst to' data).extract 0 6 ++ ⟨#[255, 255]⟩ ++ (udp1 src fr dst to' data).extract 8 (udp1 src fr dst to' data).size) := putFF _
  generalize wordAt (udp1 src fr dst to' data) 6 = c at HAT HU
  generalize befM 17 src dst (udp0 fr to' data).size = bm at HBF HSE
  generalize udp1 src fr dst to' data = U at HSE HAT HU HPW hu1
  go_enter Tryz.func18, Tryz.ntmps18
  go_wp2_with (go_at_call 22; refine (wideI_any _ _ _ (by decide) (by decide)).mono ?_; rintro e w1 ⟨rfl, hb1⟩; have hM1 := hM.out.call hb1; clear hM hb1 r0 r1 r2 r3 r4 r5 r6 r7 rf; obtain ⟨⟨r0, r1, r2, r3, r4, r5, r6, r7⟩, rf⟩ := c8 hM1.bk; have hM : Hid _ := hM1; clear hM1)
  refine (HBF.out _).mono ?_
  rintro e w2 ⟨rfl, hb2⟩
  have h2 := (K2.of hM.out _).call hb2
  have hne : w1.heap.size ≠ w.heap.size := h2.ne.symm
  have hle := h2.le
  clear hM hb2 r0 r1 r2 r3 r4 r5 r6 r7 rf
  have H2 : Hid (K2 w w2 w.heap.size #[.int .i64 0, .int .i64 0, .int .i64 0, .int .i64 0, .int .i64 0, .int .i64 0, .int .i64 0, .string ⟨#[]⟩] w1.heap.size #[.int .i64 7, .int .i64 0, .int .i64 0, .int .i64 9, .int .i64 17, .int .i64 src, .int .i64 dst, .string (wideI fr 2 ++ wideI to' 2 ++ wideI (8 + (data.size : Int)) 2 ++ ⟨#[0, 0]⟩ ++ data)] 37) := h2
  clear h2
  obtain ⟨⟨q0, q1, q2, q3, q4, q5, q6, q7⟩, qf⟩ := c8 H2.out.k1
  go_wp2_with fail
  refine (HSE.out _).mono ?_
  rintro e w3 ⟨rfl, hb3⟩
  have H3 : Hid (K2 w (w3.setCell ⟨w1.heap.size, 7, none⟩ (.string U)) w.heap.size #[.int .i64 0, .int .i64 0, .int .i64 0, .int .i64 0, .int .i64 0, .int .i64 0, .int .i64 0, .string ⟨#[]⟩] w1.heap.size #[.int .i64 7, .int .i64 0, .int .i64 0, .int .i64 9, .int .i64 17, .int .i64 src, .int .i64 dst, .string U] 37) := (H2.out.call hb3).set1 7 (.string U)
  have hM3 := H2.out.call hb3
  clear hb3 q0 q1 q2 q3 q4 q5 q6 q7 qf H2
  obtain ⟨⟨q0, q1, q2, q3, q4, q5, q6, q7⟩, qf⟩ := c8 hM3.k1
  clear hM3
  go_wp2_with fail
  refine (HAT.out _).mono ?_
  rintro e w4 ⟨rfl, rfl⟩
  clear q0 q1 q2 q3 q4 q5 q6 q7 qf
  generalize w3.setCell ⟨w1.heap.size, 7, none⟩ (.string U) = w5 at H3 ⊢
  obtain ⟨⟨q0, q1, q2, q3, q4, q5, q6, q7⟩, qf⟩ := c8 H3.out.k1
  obtain ⟨⟨r0, r1, r2, r3, r4, r5, r6, r7⟩, rf⟩ := c8 H3.out.k0
  by_cases hc : c = 0
  · rw [if_pos hc, HPW.out] at HU
    have hu6 : (6 : Int) ≤ (U.size : Int) := by omega
    have hu8 : (8 : Int) ≤ (U.size : Int) := by omega
    have hu6' : 6 ≤ U.size := by omega
    have hu8' : 8 ≤ U.size := by omega
    have hmn : ¬ 9223372036854775807 < min 6 U.size + 2 := by omega
    have hmx : ¬ 9223372036854775807 < U.size := by omega
    clear hu1
    go_wp2
    go_region
    generalize U.extract 0 6 ++ ⟨#[255, 255]⟩ ++ U.extract 8 U.size = X at HU ⊢
    have H5 : Hid (K2 w (w5.setCell ⟨w1.heap.size, 7, none⟩ (.string X)) w.heap.size #[.int .i64 0, .int .i64 0, .int .i64 0, .int .i64 0, .int .i64 0, .int .i64 0, .int .i64 0, .string ⟨#[]⟩] w1.heap.size #[.int .i64 7, .int .i64 0, .int .i64 0, .int .i64 9, .int .i64 17, .int .i64 src, .int .i64 dst, .string X] 37) := H3.out.set1 7 _
    clear q0 q1 q2 q3 q4 q5 q6 q7 qf r0 r1 r2 r3 r4 r5 r6 r7 rf
    generalize w5.setCell ⟨w1.heap.size, 7, none⟩ (.string X) = w6 at H5 ⊢
    obtain ⟨⟨q0, q1, q2, q3, q4, q5, q6, q7⟩, qf⟩ := c8 H5.out.k1
    obtain ⟨⟨r0, r1, r2, r3, r4, r5, r6, r7⟩, rf⟩ := c8 H5.out.k0
    go_wp2
    refine bodyPost_ret (v := .agg #[.int .i64 7, .int .i64 0, .int .i64 0, .int .i64 9, .int .i64 17, .int .i64 src, .int .i64 dst, .string X]) (by simp [results, Tryz.results18, go_sem, r0, r1, r2, r3, r4, r5, r6, r7]) rfl ⟨by rw [HU.out], ?_⟩
    have hE := H5.out.bl
    clear H5 H3 HU HPW HAT HSE HBF q0 q1 q2 q3 q4 q5 q6 q7 qf r0 r1 r2 r3 r4 r5 r6 r7 rf
    refine Below.drew ?_
    repeat first | refine Below.setCell ?_ (by simp) _ | exact hE
  · rw [if_neg hc] at HU
    go_wp2
    refine bodyPost_ret (v := .agg #[.int .i64 7, .int .i64 0, .int .i64 0, .int .i64 9, .int .i64 17, .int .i64 src, .int .i64 dst, .string U]) (by simp [results, Tryz.results18, go_sem, r0, r1, r2, r3, r4, r5, r6, r7]) rfl ⟨by rw [HU.out], ?_⟩
    repeat first | refine Below.setCell ?_ (by simp) _ | exact H3.out.bl
end Go.Proofs.YtfkjobiapjhacabGreat
/- Contracts of package gatewaykeep: TCP messages, echoes. Own work. -/
namespace Go.Proofs.YtfkjobiapjhacabGreat
open Go.RowKit
attribute [local go_sem ↓] Go.wp_at_zero Go.wp_at_succ

def tcp0 (fr to' fg : Int) (data : ByteArray) : ByteArray := wideI fr 2 ++ wideI to' 2 ++ ⟨#[0, 0, 0, 5, 0, 0, 0, 6, 80]⟩ ++ wideI fg 1 ++ ⟨#[17, 17, 0, 0, 0, 0]⟩ ++ data
theorem tcp0_size (fr to' fg : Int) (data : ByteArray) : (tcp0 fr to' fg data).size = 20 + data.size := by
  simp only [tcp0, ByteArray.size_append, wideI_size]
  show 2 + 2 + 9 + 1 + 6 + data.size = _
  omega
def tcpB (src fr dst to' fg : Int) (data : ByteArray) : ByteArray := kseal (tcp0 fr to' fg data) 16 (befM 6 src dst (tcp0 fr to' fg data).size)
def tcpP (src fr dst to' fg : Int) (data : ByteArray) : PK := ⟨8, 0, 0, 9, 6, src, dst, tcpB src fr dst to' fg data⟩
end Go.Proofs.YtfkjobiapjhacabGreat
