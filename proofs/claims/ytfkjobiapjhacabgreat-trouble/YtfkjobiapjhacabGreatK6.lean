/- Own work. -/
import Derived.Test.YtfkjobiapjhacabGreatK2
import Derived.Test.YtfkjobiapjhacabGreatKpP
import Derived.Test.YtfkjobiapjhacabGreatK3
/- Contracts of package gatewaykeep: echoes. Own work. -/
namespace Go.Proofs.YtfkjobiapjhacabGreat
open Go.RowKit
attribute [local go_sem ↓] Go.wp_at_zero Go.wp_at_succ

def echo0 (kind id : Int) (data : ByteArray) : ByteArray := wideI kind 1 ++ ⟨#[0, 0, 0]⟩ ++ wideI id 2 ++ ⟨#[0, 1]⟩ ++ data
theorem echo0_size (kind id : Int) (data : ByteArray) : (echo0 kind id data).size = 8 + data.size := by
  simp only [echo0, ByteArray.size_append, wideI_size]
  show 1 + 3 + 2 + 2 + data.size = _
  omega
def eBody (kind id : Int) (data : ByteArray) : ByteArray := kseal (echo0 kind id data) 2 ⟨#[]⟩
def echoP (kind src dst id : Int) (data : ByteArray) : PK := ⟨9, 0, 0, 9, 1, src, dst, eBody kind id data⟩
set_option maxRecDepth 100000 in
set_option maxHeartbeats 1000000 in
theorem echo_any (kind src dst id : Int) (data : ByteArray) (w : World) (hs : data.size ≤ 900) :
    Calls Tryz.prog 19 #[.int .i64 kind, .int .i64 src, .int .i64 dst, .int .i64 id, .string data] w fun e w' => e = .returned (echoP kind src dst id data).val ∧ Below w.heap.size w w' := by
  have hM : Hid (KMid w (w.alloc (.cells #[.int .i64 0, .int .i64 0, .int .i64 0, .int .i64 0, .int .i64 0, .int .i64 0, .int .i64 0, .string ⟨#[]⟩] 37)) w.heap.size #[.int .i64 0, .int .i64 0, .int .i64 0, .int .i64 0, .int .i64 0, .int .i64 0, .int .i64 0, .string ⟨#[]⟩] 37) := KMid.start w _ _
  obtain ⟨⟨r0, r1, r2, r3, r4, r5, r6, r7⟩, rf⟩ := c8 hM.out.bk
  have hz1 : ∀ v, (wideI v 1).size = 1 := fun v => wideI_size v 1
  have hz2 : ∀ v, (wideI v 2).size = 2 := fun v => wideI_size v 2
  have HSE : Hid (∀ w, Calls Tryz.prog 23 #[.string (wideI kind 1 ++ ⟨#[0, 0, 0]⟩ ++ wideI id 2 ++ ⟨#[0, 1]⟩ ++ data), .int .i64 2, .string ⟨#[]⟩] w fun e w' => e = .returned (.string (eBody kind id data)) ∧ Below w.heap.size w w') := fun w =>
    ksealed_any (echo0 kind id data) 2 _ w (by rw [echo0_size]; omega) (by rw [echo0_size]; omega) (by decide)
  have HU : Hid ((echoP kind src dst id data).val = .agg #[.int .i64 9, .int .i64 0, .int .i64 0, .int .i64 9, .int .i64 1, .int .i64 src, .int .i64 dst, .string (eBody kind id data)]) := by show _ = _; simp only [echoP, PK.val]
  generalize eBody kind id data = V at HSE HU
  go_enter Tryz.func19, Tryz.ntmps19
  go_wp2_with (go_at_call 22; refine (wideI_any _ _ _ (by decide) (by decide)).mono ?_; rintro e w1 ⟨rfl, hb1⟩; have hM1 := hM.out.call hb1; clear hM hb1 r0 r1 r2 r3 r4 r5 r6 r7 rf; obtain ⟨⟨r0, r1, r2, r3, r4, r5, r6, r7⟩, rf⟩ := c8 hM1.bk; have hM : Hid _ := hM1; clear hM1)
  refine (HSE.out _).mono ?_
  rintro e w3 ⟨rfl, hb3⟩
  have h2 := K2.of hM.out #[.int .i64 9, .int .i64 0, .int .i64 0, .int .i64 9, .int .i64 1, .int .i64 src, .int .i64 dst, .string (wideI kind 1 ++ ⟨#[0, 0, 0]⟩ ++ wideI id 2 ++ ⟨#[0, 1]⟩ ++ data)]
  have hne : w1.heap.size ≠ w.heap.size := h2.ne.symm
  have hle := h2.le
  have hM3 := h2.call hb3
  clear hM hb3 r0 r1 r2 r3 r4 r5 r6 r7 rf h2
  obtain ⟨⟨q0, q1, q2, q3, q4, q5, q6, q7⟩, qf⟩ := c8 hM3.k1
  obtain ⟨⟨r0, r1, r2, r3, r4, r5, r6, r7⟩, rf⟩ := c8 hM3.k0
  have HE : Hid (Below w.heap.size w w3) := hM3.bl
  clear hM3
  go_wp2_with fail
  refine bodyPost_ret (v := .agg #[.int .i64 9, .int .i64 0, .int .i64 0, .int .i64 9, .int .i64 1, .int .i64 src, .int .i64 dst, .string V]) (by simp [results, Tryz.results19, go_sem, r0, r1, r2, r3, r4, r5, r6, r7]) rfl ⟨by rw [HU.out], ?_⟩
  have hE := HE.out
  repeat first | refine Below.setCell ?_ (by first | exact hle | simp) _ | exact hE
/-- The bytes of an echo or a reply. -/
def EM (kind id ck : Int) (d : List UInt8) : List UInt8 := [byteOf kind, 0, byteOf (ck / 256), byteOf ck, byteOf (id / 256), byteOf id, 0, 1] ++ d
theorem EM_sum (kind id ck : Int) (d : List UInt8) : sumL (EM kind id ck d) = kind % 256 * 256 + ck % 65536 + id % 65536 + 1 + sumL d := by
  unfold EM
  simp only [List.cons_append, List.nil_append, sumL, byteOf_int]
  have e0 : ((0 : UInt8).toNat : Int) = 0 := rfl
  have e1 : ((1 : UInt8).toNat : Int) = 1 := rfl
  rw [e0, e1]
  omega
theorem EM_put2 (kind id ck : Int) (d : List UInt8) (v : Int) : (EM kind id ck d).take 2 ++ [byteOf (v / 256), byteOf v] ++ (EM kind id ck d).drop (2 + 2) = EM kind id v d := rfl
theorem EM_put4 (kind id ck : Int) (d : List UInt8) (v : Int) : (EM kind id ck d).take 4 ++ [byteOf (v / 256), byteOf v] ++ (EM kind id ck d).drop (4 + 2) = EM kind v ck d := rfl
theorem EM_length (kind id ck : Int) (d : List UInt8) : (EM kind id ck d).length = 8 + d.length := by unfold EM; rw [List.length_append]; rfl
def ES (kind id : Int) (d : List UInt8) : Int := kind % 256 * 256 + id % 65536 + 1 + sumL d
def EMS (kind id : Int) (d : List UInt8) : List UInt8 := EM kind id (65535 - foldI (ES kind id d)) d
theorem bl_echo0 (kind id : Int) (data : ByteArray) : bl (echo0 kind id data) = EM kind id 0 (bl data) := by
  unfold echo0 EM
  simp only [bl_app, bl_wide2, bl_wide1, List.append_assoc]
  rfl
theorem bl_echoB (kind id : Int) (data : ByteArray) : bl (eBody kind id data) = EMS kind id (bl data) := by
  have e1 : bl (putWord (echo0 kind id data) 2 0) = EM kind id 0 (bl data) := by rw [bl_put, bl_echo0, EM_put2]
  have hd := sumL_nonneg (bl data)
  have e2 : ksealT (echo0 kind id data) 2 ⟨#[]⟩ = foldI (ES kind id (bl data)) := by
    unfold ksealT
    rw [sumI_bl, e1, EM_sum, sumI_nil]
    have := fold_fold 0 (kind % 256 * 256 + 0 % 65536 + id % 65536 + 1 + sumL (bl data)) (by decide) (by omega)
    rw [Int.zero_add, Int.zero_add] at this
    rw [Int.add_zero, this]
    unfold ES
    refine congrArg foldI ?_
    omega
  unfold eBody kseal
  rw [bl_put, bl_echo0, EM_put2, e2]
  rfl
theorem echo_sum (kind id : Int) (d : List UInt8) : foldI (sumL (EMS kind id d)) = 65535 := by
  have hd := sumL_nonneg d
  have hb := foldI_bd (ES kind id d)
  have hf := fold_seal (ES kind id d) (by unfold ES; omega)
  unfold EMS
  rw [EM_sum]
  refine Eq.trans (congrArg foldI ?_) hf
  have ec : (65535 - foldI (ES kind id d)) % 65536 = 65535 - foldI (ES kind id d) := by omega
  rw [ec]
  have e3 : ES kind id d = kind % 256 * 256 + id % 65536 + 1 + sumL d := rfl
  generalize foldI (ES kind id d) = c
  rw [e3]
  omega
end Go.Proofs.YtfkjobiapjhacabGreat
/- Contracts of package gatewaykeep: echoes that come in. Own work. -/
namespace Go.Proofs.YtfkjobiapjhacabGreat
open Go.RowKit
attribute [local go_sem ↓] Go.wp_at_zero Go.wp_at_succ

end Go.Proofs.YtfkjobiapjhacabGreat
