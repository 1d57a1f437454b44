/- An error about a packet that nobody has sent; what is received first. Own work. -/
import Derived.Test.YtfkjobiapjhacabGreatUc
namespace Go.Proofs.YtfkjobiapjhacabGreat
open Go.RowKit
attribute [local go_sem ↓] Go.wp_at_zero Go.wp_at_succ

def els1 (M T : ByteArray) : ByteArray := M.extract 0 24 ++ T ++ M.extract 28 M.size
def els2 (b : ByteArray) : ByteArray := b.extract 0 8 ++ kseal (b.extract 8 28) 10 ⟨#[]⟩ ++ b.extract 28 b.size
def elsM (M : ByteArray) (t : Int) : ByteArray := kseal (els2 (els1 M (wideI t 4))) 2 ⟨#[]⟩
theorem kseal_size (s : ByteArray) (p : Nat) (m : ByteArray) (h : p + 2 ≤ s.size) : (kseal s p m).size = s.size := size_put _ _ _ h
theorem els1_size (M T : ByteArray) (h : 28 ≤ M.size) (hT : T.size = 4) : (els1 M T).size = M.size := by
  unfold els1
  rw [ByteArray.size_append, ByteArray.size_append, ByteArray.size_extract, ByteArray.size_extract, hT]
  omega
theorem els2_size (b : ByteArray) (h : 28 ≤ b.size) : (els2 b).size = b.size := by
  unfold els2
  rw [ByteArray.size_append, ByteArray.size_append, kseal_size _ _ _ (by rw [ByteArray.size_extract]; omega), ByteArray.size_extract, ByteArray.size_extract, ByteArray.size_extract]
  omega
theorem HD_kseal {s : ByteArray} {n id fw ttl pr ck src dst : Int} (h : bl s = HD n id fw ttl pr ck src dst) : bl (kseal s 10 ⟨#[]⟩) = HDS n id fw ttl pr src dst := by
  have e1 : bl (putWord s 10 0) = HD n id fw ttl pr 0 src dst := by rw [bl_put, h, HD_put10]
  have e2 : ksealT s 10 ⟨#[]⟩ = foldI (HS n id fw ttl pr src dst) := by
    unfold ksealT
    rw [sumI_bl, e1, HD_sum, sumI_nil]
    have h := HS_nonneg n id fw ttl pr src dst
    generalize HS n id fw ttl pr src dst = a at h ⊢
    have := fold_fold 0 a (by decide) (by omega)
    simpa using this
  unfold kseal
  rw [bl_put, h, HD_put10, e2]
  rfl
theorem bl_elsM {M : ByteArray} {kd ck n id ttl pr s d : Int} {b : List UInt8} (h : bl M = XM kd ck (HDS n id 0 ttl pr s d ++ b)) (t : Int) : bl (elsM M t) = XMS kd (HDS n id 0 ttl pr s t ++ b) := by
  have hz : M.size = 28 + b.length := by rw [← bl_length, h, XM_length, List.length_append, HDS_length]; omega
  have h1 : bl (els1 M (wideI t 4)) = XM kd ck (HD n id 0 ttl pr (65535 - foldI (HS n id 0 ttl pr s d)) s t ++ b) := by
    unfold els1
    rw [bl_app, bl_app, bl_ex, bl_ex, h, bl_wide4, hz]
    have e : (XM kd ck (HDS n id 0 ttl pr s d ++ b)).drop 28 = b := rfl
    rw [e, List.take_of_length_le (l := b) (by omega)]
    rfl
  have hz1 : (els1 M (wideI t 4)).size = 28 + b.length := by rw [els1_size M _ (by omega) (wideI_size t 4), hz]
  unfold elsM
  generalize els1 M (wideI t 4) = E at h1 hz1 ⊢
  have h2 : bl (E.extract 8 28) = HD n id 0 ttl pr (65535 - foldI (HS n id 0 ttl pr s d)) s t := by
    rw [bl_ex, h1]
    rfl
  have h3 : bl (els2 E) = XM kd ck (HDS n id 0 ttl pr s t ++ b) := by
    unfold els2
    rw [bl_app, bl_app, HD_kseal h2, bl_ex, bl_ex, h1, hz1]
    have e : (XM kd ck (HD n id 0 ttl pr (65535 - foldI (HS n id 0 ttl pr s d)) s t ++ b)).drop 28 = b := rfl
    rw [e, List.take_of_length_le (l := b) (by omega)]
    rfl
  exact bl_kseal2 h3
set_option maxRecDepth 100000 in
set_option maxHeartbeats 1000000 in
theorem elsewhere_any (p : PK) (M : ByteArray) (f : Int) (w : World) (h28 : 28 ≤ M.size) (hs : M.size ≤ 1000) (f0 : 0 ≤ f) (f1 : f ≤ 4294967295) :
    Calls Tryz.prog 27 #[.agg #[.int .i64 p.id, .int .i64 p.fl, .int .i64 p.off, .int .i64 p.ttl, .int .i64 p.pr, .int .i64 p.src, .int .i64 p.dst, .string M], .int .i64 f] w fun e w' => e = .returned (.agg #[.int .i64 p.id, .int .i64 p.fl, .int .i64 p.off, .int .i64 p.ttl, .int .i64 p.pr, .int .i64 p.src, .int .i64 p.dst, .string (elsM M (f + 201))]) ∧ Below w.heap.size w w' := by
  have HW : Hid (∀ W, Calls Tryz.prog 22 #[.int .i64 (f + 201), .int .i64 4] W fun e w' => e = .returned (.string (wideI (f + 201) 4)) ∧ Below W.heap.size W w') := fun W => wideI_any _ _ W (by decide) (by decide)
  have hT := wideI_size (f + 201) 4
  have hT4 : (wideI (f + 201) 4).size = 4 := hT
  clear hT
  obtain ⟨R, hR⟩ : ∃ R, R = elsM M (f + 201) := ⟨_, rfl⟩
  rw [← hR]
  unfold elsM at hR
  generalize wideI (f + 201) 4 = T at HW hT4 hR
  have hz1 := els1_size M T h28 hT4
  obtain ⟨E, hE⟩ : ∃ E, E = els1 M T := ⟨_, rfl⟩
  rw [← hE] at hR hz1
  have hz2 := els2_size E (by omega)
  have hkz := kseal_size (E.extract 8 28) 10 ⟨#[]⟩ (by rw [ByteArray.size_extract]; omega)
  rw [ByteArray.size_extract] at hkz
  have HK : Hid (∀ W, Calls Tryz.prog 23 #[.string (E.extract 8 28), .int .i64 10, .string ⟨#[]⟩] W fun e w' => e = .returned (.string (kseal (E.extract 8 28) 10 ⟨#[]⟩)) ∧ Below W.heap.size W w') := fun W => ksealed_any (E.extract 8 28) 10 _ W (by rw [ByteArray.size_extract]; omega) (by rw [ByteArray.size_extract]; omega) (by decide)
  obtain ⟨E2, hE2⟩ : ∃ E2, E2 = els2 E := ⟨_, rfl⟩
  rw [← hE2] at hR hz2
  have HS2 : Hid (∀ W, Calls Tryz.prog 23 #[.string E2, .int .i64 2, .string ⟨#[]⟩] W fun e w' => e = .returned (.string R) ∧ Below W.heap.size W w') := fun W => by
    rw [hR]
    exact ksealed_any E2 2 _ W (by omega) (by omega) (by decide)
  unfold els1 at hE
  unfold els2 at hE2
  generalize kseal (E.extract 8 28) 10 ⟨#[]⟩ = K at HK hE2 hkz
  have HE : Hid (M.extract 0 24 ++ T ++ M.extract 28 M.size = E) := hE.symm
  rw [hz1] at hE2
  have HE2 : Hid (E.extract 0 8 ++ K ++ E.extract 28 M.size = E2) := hE2.symm
  have w1 : wrap64 (f + 201) = f + 201 := g_wrap64 _ (by omega) (by omega)
  have m1 : (24 : Int) ≤ (M.size : Int) := by omega
  have m2 : (28 : Int) ≤ (M.size : Int) := by omega
  have m3 : ¬ 9223372036854775807 < min 24 M.size + T.size := by omega
  have m4 : ¬ 9223372036854775807 < min 24 M.size + T.size + (M.size - 28) := by omega
  have n1 : (28 : Int) ≤ (E.size : Int) := by omega
  have n2 : (8 : Int) ≤ (E.size : Int) := by omega
  have n3 : ¬ 9223372036854775807 < min 8 E.size + K.size := by omega
  have n4 : ¬ 9223372036854775807 < min 8 E.size + K.size + (E.size - 28) := by omega
  clear hE hE2 hR
  have hM1 : LMid w ((w.alloc (.cells #[.int .i64 p.id, .int .i64 p.fl, .int .i64 p.off, .int .i64 p.ttl, .int .i64 p.pr, .int .i64 p.src, .int .i64 p.dst, .string M] 37)).alloc (.cells #[.int .i64 0, .int .i64 0, .int .i64 0, .int .i64 0, .int .i64 0, .int .i64 0, .int .i64 0, .string ⟨#[]⟩] 37)) [(w.heap.size + 1, #[.int .i64 0, .int .i64 0, .int .i64 0, .int .i64 0, .int .i64 0, .int .i64 0, .int .i64 0, .string ⟨#[]⟩], 37), (w.heap.size, #[.int .i64 p.id, .int .i64 p.fl, .int .i64 p.off, .int .i64 p.ttl, .int .i64 p.pr, .int .i64 p.src, .int .i64 p.dst, .string M], 37)] := ((LMid.start w).alloc' _ _ _ rfl).alloc' _ _ _ (by simp)
  have hM : Hid _ := hM1
  clear hM1
  go_enter Tryz.func27, Tryz.ntmps27
  go_wp2_with fail
  refine (HW.out _).mono ?_
  rintro e wa ⟨rfl, hb1⟩
  have hM1 := hM.out.call hb1
  clear hM hb1
  obtain ⟨⟨p0, p1, p2, p3, p4, p5, p6, p7⟩, pf⟩ := c8 hM1.at1
  have hM : Hid _ := hM1.drew
  clear hM1
  go_wp2_with fail
  go_region
  rw [HE.out]
  go_wp2_with fail
  refine (HK.out _).mono ?_
  rintro e wb ⟨rfl, hb1⟩
  have hM1 := hM.out.call hb1
  clear hM hb1 p0 p1 p2 p3 p4 p5 p6 p7 pf
  have hM : Hid _ := hM1.drew
  clear hM1
  go_wp2_with fail
  go_region
  rw [HE2.out]
  go_wp2_with fail
  refine (HS2.out _).mono ?_
  rintro e wd ⟨rfl, hb1⟩
  have hM1 := hM.out.call hb1
  clear hM hb1
  obtain ⟨⟨p0, p1, p2, p3, p4, p5, p6, p7⟩, pf⟩ := c8 hM1.at1
  obtain ⟨⟨r0, r1, r2, r3, r4, r5, r6, r7⟩, rf⟩ := c8 hM1.at0
  have hM : Hid _ := hM1
  clear hM1
  go_wp2_with fail
  refine bodyPost_ret (v := .agg #[.int .i64 p.id, .int .i64 p.fl, .int .i64 p.off, .int .i64 p.ttl, .int .i64 p.pr, .int .i64 p.src, .int .i64 p.dst, .string R]) (by simp [results, Tryz.results27, go_sem, r0, r1, r2, r3, r4, r5, r6, r7]) rfl ⟨rfl, ?_⟩
  have hE := hM.out.bl
  exact ((((((((hE.setCell (by simp) _).setCell (by simp) _).setCell (by simp) _).setCell (by simp) _).setCell (by simp) _).setCell (by simp) _).setCell (by simp) _).setCell (by simp) _).setCell (by simp) _
/-! What an inner end sends first. -/
theorem recv_udp (b : Nat) (cs : List Int) (h p f q : Int) (data : ByteArray) (hr : RQ h p f q) (hd : data.size ≤ 120) :
    RecvAt b (stN 2 0 cs []) 0 (rawP ⟨7, 0, 0, 9, 17, h, f, udpB h p f q data⟩) 0 (some (1, rawP ⟨7, 0, 0, 8, 17, 3405803781, f, udpB 3405803781 5000 f q data⟩)) (stN 2 0 (bump cs 0) [S1 h p f q 5000 (0 + 30)]) := by
  obtain ⟨a0, a1, b0, b1, c0, c1, q0, q1⟩ := hr
  have hu : URange h p f q data := ⟨by omega, by omega, by omega, by omega, b0, b1, q0, q1, hd⟩
  obtain ⟨e1, e2⟩ := ins_fresh (stN 2 0 cs []) rfl h p f q (udpB h p f q data) (show ¬ f = 3405803781 by omega) (show ¬ (5000 : Int) = 0 by decide) (show (5000 : Int) ≤ 4999 + 2 by decide)
  have hH := udp_hand (stN 2 0 cs []) 0 h p f q data hu (Or.inl rfl) (may_in _ rfl rfl h f (by omega) (by omega) (by omega))
  have hW : uW (stN 2 0 cs []) 0 h p f q data = ⟨0, 1, 17, 3405803781, 5000, f, q, btwM 17 (udpB h p f q data) 3405803781 5000 f q⟩ := (if_pos rfl).trans e1
  have hL : uL (stN 2 0 cs []) 0 h p f q data = [S1 h p f q 5000 (0 + 30)] := (if_pos rfl).trans e2
  rw [hW, hL] at hH
  unfold wayH at hH
  simp only [if_pos] at hH
  rw [udp_onward h p f q 3405803781 5000 f q data hu (by decide) (by decide) (by omega) (by omega)] at hH
  intro W v hbx
  have hh := Receive_any hbx (stN_nil 2 0 cs (by decide) (by decide) (by decide) (by decide)) 0 (rawP (udpP h p f q data)) (Or.inl (udp_noerr h p f q data)) (udp_np h p f q data)
  rw [hH] at hh
  exact hh
theorem recv_echo (b : Nat) (cs : List Int) (h id f : Int) (data : ByteArray) (hr : RE h id f) (hd : data.size ≤ 120) :
    RecvAt b (stN 2 0 cs []) 0 (rawP ⟨9, 0, 0, 9, 1, h, f, eBody 8 id data⟩) 0 (some (1, rawP ⟨9, 0, 0, 8, 1, 3405803781, f, eBody 8 5000 data⟩)) (stN 2 0 (bump cs 0) [E1 h id f 5000 (0 + 10)]) := by
  obtain ⟨a0, a1, b0, b1, c0, c1⟩ := hr
  have hu : ERange 8 h f id data := ⟨Or.inl rfl, by omega, by omega, by omega, by omega, b0, b1, hd⟩
  obtain ⟨e1, e2⟩ := insE_fresh (stN 2 0 cs []) rfl h id f (eBody 8 id data) (show ¬ f = 3405803781 by omega) (show ¬ (5000 : Int) = 0 by decide) (show (5000 : Int) ≤ 4999 + 2 by decide)
  have e0 : ¬ ¬ eFault (stN 2 0 cs []).ou 0 1 f (eBody 8 id data) = 0 := by
    show ¬ ¬ eFault 3405803781 0 1 f (eBody 8 id data) = 0
    rw [eF_out f id data b0 b1 (by omega)]; decide
  have hW : eW (stN 2 0 cs []) 0 8 h f id data = ⟨0, 1, 1, 3405803781, 5000, f, 0, btwM 1 (eBody 8 id data) 3405803781 5000 f 0⟩ := by
    unfold eW
    rw [if_neg e0, if_pos rfl]
    exact e1
  have hL : eL (stN 2 0 cs []) 0 8 h f id data = [E1 h id f 5000 (0 + 10)] := by
    unfold eL
    rw [if_neg e0, if_pos rfl]
    exact e2
  have hH := echo_hand (stN 2 0 cs []) 0 8 h f id data hu (Or.inl rfl) (may_in _ rfl rfl h f (by omega) (by omega) (by omega))
  rw [hW, hL] at hH
  unfold wayH at hH
  simp only [if_pos] at hH
  rw [echo_onward 8 h f id 3405803781 5000 f 0 data hu] at hH
  rw [if_pos rfl] at hH
  intro W v hbx
  have hh := Receive_any hbx (stN_nil 2 0 cs (by decide) (by decide) (by decide) (by decide)) 0 (rawP (echoP 8 h f id data)) (Or.inl (echo_noerr 8 h f id data hu)) (echo_np 8 h f id data)
  rw [hH] at hh
  exact hh
end Go.Proofs.YtfkjobiapjhacabGreat
