/- Trouble: the walk. Own work. -/
import Derived.Test.YtfkjobiapjhacabGreatU1
namespace Go.Proofs.YtfkjobiapjhacabGreat
open Go.RowKit
attribute [local go_sem ↓] Go.wp_at_zero Go.wp_at_succ

/-- A packet, what becomes of it, and the box behind it. -/
structure TSx (b : Nat) (h f pid pr : Int) (BO BI : ByteArray) (x : SD) : Prop where
  ti : ∃ i fp, TI pid pr h i f fp BO BI x
  rc : RecvAt b (stN 2 0 [0, 0, 0, 0, 0, 0, 0, 0, 0, 0, 0, 0, 0, 0, 0, 0, 0, 0] []) 0 (rawP ⟨pid, 0, 0, 9, pr, h, f, BI⟩) 0 (some (1, rawP ⟨pid, 0, 0, 8, pr, 3405803781, f, BO⟩)) (stN 2 0 (bump [0, 0, 0, 0, 0, 0, 0, 0, 0, 0, 0, 0, 0, 0, 0, 0, 0, 0] 0) [x])
  i0 : 0 ≤ pid
  i1 : pid ≤ 65535
theorem TS_udp (b : Nat) (h i f j : Int) (hr : RQ h i f j) : TSx b h f 7 17 (udpB 3405803781 5000 f j ⟨#[115, 111, 109, 101, 32, 100, 97, 116, 97]⟩) (udpB h i f j ⟨#[115, 111, 109, 101, 32, 100, 97, 116, 97]⟩) (S1 h i f j 5000 (0 + 30)) := ⟨⟨_, _, TI_udp h i f j hr⟩, recv_udp b _ h i f j ⟨#[115, 111, 109, 101, 32, 100, 97, 116, 97]⟩ hr (by decide), by decide, by decide⟩
theorem TS_echo (b : Nat) (h f j : Int) (hr : RE h j f) : TSx b h f 9 1 (eBody 8 5000 ⟨#[115, 111, 109, 101, 32, 100, 97, 116, 97]⟩) (eBody 8 j ⟨#[115, 111, 109, 101, 32, 100, 97, 116, 97]⟩) (E1 h j f 5000 (0 + 10)) := ⟨⟨_, _, TI_echo h f j hr⟩, recv_echo b _ h j f ⟨#[115, 111, 109, 101, 32, 100, 97, 116, 97]⟩ hr (by decide), by decide, by decide⟩
theorem frk {w w' : World} {g : Nat} {u v : Value} (hb : Below w.heap.size w w') (h : g < w.heap.size ∧ w.cell? ⟨g, 0, none⟩ = some u ∧ w.cell? ⟨g, 1, none⟩ = some v) : g < w'.heap.size ∧ w'.cell? ⟨g, 0, none⟩ = some u ∧ w'.cell? ⟨g, 1, none⟩ = some v :=
  ⟨Nat.lt_of_lt_of_le h.1 hb.size, (hb.cell (p := ⟨g, 0, none⟩) h.1).trans h.2.1, (hb.cell (p := ⟨g, 1, none⟩) h.1).trans h.2.2⟩
set_option maxRecDepth 100000 in
set_option maxHeartbeats 4000000 in
theorem ktrouble_any (a c kind : Int) (w : World) (ha0 : -9223372036854775808 ≤ a) (ha1 : a ≤ 9223372036854775807) (hc0 : -9223372036854775808 ≤ c) (hc1 : c ≤ 9223372036854775807) (hd0 : -9223372036854775808 ≤ kind) (hd1 : kind ≤ 9223372036854775807) :
    Calls Tryz.prog 8 #[.int .i64 a, .int .i64 c, .int .i64 kind] w fun e w' => e = .returned (.bool true) ∧ Below w.heap.size w w' := by
  have hk := pickI_bd a 200 (by decide)
  have hk2 := pickI_bd a 65535 (by decide)
  have hk3 := pickI_bd c 200 (by decide)
  have hk4 := pickI_bd c 65535 (by decide)
  have hk5 := pickI_bd kind 3 (by decide)
  have hk6 := pickI_bd (wrap64 (c + 7)) 200 (by decide)
  have hw : -9223372036854775808 ≤ wrap64 (c + 7) ∧ wrap64 (c + 7) ≤ 9223372036854775807 := by unfold wrap64; omega
  have HRR : Hid (RQ (167772161 + pickI a 200) (1 + pickI a 65535) (134744064 + pickI c 200) (1 + pickI c 65535)) := ⟨by omega, by omega, by omega, by omega, by omega, by omega, by omega, by omega⟩
  have HRE : Hid (RE (167772161 + pickI a 200) (1 + pickI c 65535) (134744064 + pickI c 200)) := ⟨by omega, by omega, by omega, by omega, by omega, by omega⟩
  have HG : Hid (134744064 ≤ 134744064 + pickI (wrap64 (c + 7)) 200 ∧ 134744064 + pickI (wrap64 (c + 7)) 200 ≤ 134744300) := ⟨by omega, by omega⟩
  have HHO : Hid (∀ w, Calls Tryz.prog 15 #[.int .i64 a] w fun e w' => e = .returned (.int .i64 (167772161 + pickI a 200)) ∧ w' = w) := fun w => host_any a w ha0 ha1
  have HPO : Hid (∀ w, Calls Tryz.prog 17 #[.int .i64 a] w fun e w' => e = .returned (.int .i64 (1 + pickI a 65535)) ∧ w' = w) := fun w => port_any a w ha0 ha1
  have HFA : Hid (∀ w, Calls Tryz.prog 16 #[.int .i64 c] w fun e w' => e = .returned (.int .i64 (134744064 + pickI c 200)) ∧ w' = w) := fun w => far_any c w hc0 hc1
  have HFG : Hid (∀ w, Calls Tryz.prog 16 #[.int .i64 (wrap64 (c + 7))] w fun e w' => e = .returned (.int .i64 (134744064 + pickI (wrap64 (c + 7)) 200)) ∧ w' = w) := fun w => far_any _ w hw.1 hw.2
  have HPQ : Hid (∀ w, Calls Tryz.prog 17 #[.int .i64 c] w fun e w' => e = .returned (.int .i64 (1 + pickI c 65535)) ∧ w' = w) := fun w => port_any c w hc0 hc1
  have HP2 : Hid (∀ w, Calls Tryz.prog 12 #[.int .i64 kind, .int .i64 2] w fun e w' => e = .returned (.int .i64 (pickI kind 2)) ∧ w' = w) := fun w => pick_any kind 2 w hd0 hd1 (by decide) (by decide)
  have HP3 : Hid (∀ w, Calls Tryz.prog 12 #[.int .i64 kind, .int .i64 3] w fun e w' => e = .returned (.int .i64 (pickI kind 3)) ∧ w' = w) := fun w => pick_any kind 3 w hd0 hd1 (by decide) (by decide)
  have hbx0 : box0 2 = (stN 2 0 [0, 0, 0, 0, 0, 0, 0, 0, 0, 0, 0, 0, 0, 0, 0, 0, 0, 0] []) := rfl
  generalize 1 + pickI a 65535 = i at HRR HPO
  generalize 134744064 + pickI c 200 = f at HRR HRE HFA
  generalize 1 + pickI c 65535 = j at HRR HRE HPQ
  generalize 167772161 + pickI a 200 = h at HRR HRE HHO
  generalize 134744064 + pickI (wrap64 (c + 7)) 200 = g at HG HFG
  generalize pickI kind 2 = k2 at HP2
  generalize pickI kind 3 = k3 at HP3 hk5
  clear hk hk2 hk3 hk4 hk6 hw
  have HUD : Hid (∀ w, Calls Tryz.prog 18 #[.int .i64 h, .int .i64 i, .int .i64 f, .int .i64 j, .string ⟨#[115, 111, 109, 101, 32, 100, 97, 116, 97]⟩] w fun e w' => e = .returned (.agg #[.int .i64 7, .int .i64 0, .int .i64 0, .int .i64 9, .int .i64 17, .int .i64 h, .int .i64 f, .string (udpB h i f j ⟨#[115, 111, 109, 101, 32, 100, 97, 116, 97]⟩)]) ∧ Below w.heap.size w w') := fun w => by
    have hu := udp_any h i f j ⟨#[115, 111, 109, 101, 32, 100, 97, 116, 97]⟩ w (by decide)
    have e : (udpP h i f j ⟨#[115, 111, 109, 101, 32, 100, 97, 116, 97]⟩).val = .agg #[.int .i64 7, .int .i64 0, .int .i64 0, .int .i64 9, .int .i64 17, .int .i64 h, .int .i64 f, .string (udpB h i f j ⟨#[115, 111, 109, 101, 32, 100, 97, 116, 97]⟩)] := by simp only [udpP, PK.val]
    rw [e] at hu
    exact hu
  have HEC : Hid (∀ w, Calls Tryz.prog 19 #[.int .i64 8, .int .i64 h, .int .i64 f, .int .i64 j, .string ⟨#[115, 111, 109, 101, 32, 100, 97, 116, 97]⟩] w fun e w' => e = .returned (.agg #[.int .i64 9, .int .i64 0, .int .i64 0, .int .i64 9, .int .i64 1, .int .i64 h, .int .i64 f, .string (eBody 8 j ⟨#[115, 111, 109, 101, 32, 100, 97, 116, 97]⟩)]) ∧ Below w.heap.size w w') := fun w => by
    have hu := echo_any 8 h f j ⟨#[115, 111, 109, 101, 32, 100, 97, 116, 97]⟩ w (by decide)
    have e : (echoP 8 h f j ⟨#[115, 111, 109, 101, 32, 100, 97, 116, 97]⟩).val = .agg #[.int .i64 9, .int .i64 0, .int .i64 0, .int .i64 9, .int .i64 1, .int .i64 h, .int .i64 f, .string (eBody 8 j ⟨#[115, 111, 109, 101, 32, 100, 97, 116, 97]⟩)] := by simp only [echoP, PK.val]
    rw [e] at hu
    exact hu
  go_enter Tryz.func8, Tryz.ntmps8
  go_wp2_with fail
  refine (box_any 2 _ (by decide) (by decide)).mono ?_
  rintro e w1 ⟨b, rfl, hbx, hle, hbl⟩
  rw [hbx0] at hbx
  have HL : Hid (w.heap.size ≤ b ∧ Below w.heap.size w w1) := ⟨hle, hbl⟩
  have hM : Hid (GMid w1 w1 b (.slice none 0 0) (.slice none 0 0) (stN 2 0 [0, 0, 0, 0, 0, 0, 0, 0, 0, 0, 0, 0, 0, 0, 0, 0, 0, 0] []) []) := GMid.start hbx
  have HTU : Hid (TSx b h f 7 17 (udpB 3405803781 5000 f j ⟨#[115, 111, 109, 101, 32, 100, 97, 116, 97]⟩) (udpB h i f j ⟨#[115, 111, 109, 101, 32, 100, 97, 116, 97]⟩) (S1 h i f j 5000 (0 + 30))) := TS_udp b h i f j HRR.out
  have HTE : Hid (TSx b h f 9 1 (eBody 8 5000 ⟨#[115, 111, 109, 101, 32, 100, 97, 116, 97]⟩) (eBody 8 j ⟨#[115, 111, 109, 101, 32, 100, 97, 116, 97]⟩) (E1 h j f 5000 (0 + 10))) := TS_echo b h f j HRE.out
  generalize udpB h i f j ⟨#[115, 111, 109, 101, 32, 100, 97, 116, 97]⟩ = BU at HUD HTU
  generalize eBody 8 j ⟨#[115, 111, 109, 101, 32, 100, 97, 116, 97]⟩ = BE at HEC HTE
  clear hbx hle hbl hbx0 HRE
  go_wp2_with fail
  refine (HHO.out _).mono ?_; rintro e w' ⟨rfl, rfl⟩
  go_wp2_with fail
  refine (HFA.out _).mono ?_; rintro e w' ⟨rfl, rfl⟩
  go_wp2_with fail
  refine (HPO.out _).mono ?_; rintro e w' ⟨rfl, rfl⟩
  go_wp2_with fail
  refine (HPQ.out _).mono ?_; rintro e w' ⟨rfl, rfl⟩
  go_wp2_with fail
  refine (HUD.out _).mono ?_
  rintro e w2 ⟨rfl, hb1⟩
  have hM1 := (hM.out.call hb1).alloc' #[.int .i64 7, .int .i64 0, .int .i64 0, .int .i64 9, .int .i64 17, .int .i64 h, .int .i64 f, .string BU] 37 w2.heap.size rfl
  clear hM hb1
  have hM : Hid _ := hM1
  clear hM1
  go_upto_if 44 with (go_at_call 12; refine (HP2.out _).mono ?_; rintro e w'' ⟨rfl, rfl⟩)
  go_cut [] (fun wx => ∃ pid pr BO BI x, TSx b h f pid pr BO BI x ∧ GMid w' wx b (.slice none 0 0) (.slice none 0 0) (stN 2 0 [0, 0, 0, 0, 0, 0, 0, 0, 0, 0, 0, 0, 0, 0, 0, 0, 0, 0] []) [(w2.heap.size, #[.int .i64 pid, .int .i64 0, .int .i64 0, .int .i64 9, .int .i64 pr, .int .i64 h, .int .i64 f, .string BI], 37)])
  case first =>
    by_cases e2 : k2 = 1
    · have kb : (k2 == 1) = true := by simp [e2]
      clear e2
      obtain ⟨⟨p0, p1, p2, p3, p4, p5, p6, p7⟩, pf⟩ := c8 hM.out.at0
      go_wp2_with fail
      refine (HEC.out _).mono ?_
      rintro e w3 ⟨rfl, hb1⟩
      have hM1 := hM.out.call hb1
      clear hM hb1 p0 p1 p2 p3 p4 p5 p6 p7 pf
      obtain ⟨⟨p0, p1, p2, p3, p4, p5, p6, p7⟩, pf⟩ := c8 hM1.at0
      have hM : Hid _ := hM1
      clear hM1
      go_wp2_with fail
      go_meet
      have hE := (((((((hM.out.set0 0 (.int .i64 9)).set0 1 (.int .i64 0)).set0 2 (.int .i64 0)).set0 3 (.int .i64 9)).set0 4 (.int .i64 1)).set0 5 (.int .i64 h)).set0 6 (.int .i64 f)).set0 7 (.string BE)
      simp only [List.setIfInBounds_toArray, List.set_cons_zero, List.set_cons_succ] at hE
      exact ⟨9, 1, _, BE, _, HTE.out, hE⟩
    · have kb : (k2 == 1) = false := by simp [e2]
      clear e2
      go_wp2_with fail
      go_meet
      exact ⟨7, 17, _, BU, _, HTU.out, hM.out⟩
  case rest =>
  obtain ⟨pid, pr, BO, BI, x, hTS, hM1⟩ := hcut
  obtain ⟨⟨p0, p1, p2, p3, p4, p5, p6, p7⟩, pf⟩ := c8 hM1.at0
  clear hM HTU HTE HUD HEC
  have hM : Hid _ := hM1
  clear hM1
  obtain ⟨i', fp, hti⟩ := hTS.ti
  have HTI : Hid (TI pid pr h i' f fp BO BI x) := hti
  have HPI : Hid (0 ≤ pid ∧ pid ≤ 65535) := ⟨hTS.i0, hTS.i1⟩
  have HRW : Hid (∀ W, Calls Tryz.prog 20 #[.agg #[.int .i64 pid, .int .i64 0, .int .i64 0, .int .i64 9, .int .i64 pr, .int .i64 h, .int .i64 f, .string BI]] W fun e w' => e = .returned (.string (rawP ⟨pid, 0, 0, 9, pr, h, f, BI⟩)) ∧ Below W.heap.size W w') := fun W => raw_any ⟨pid, 0, 0, 9, pr, h, f, BI⟩ W (by show BI.size ≤ 1000000; rw [hti.si]; decide) (by show (0 : Int) ≤ 0; decide) (by show (0 : Int) ≤ 7; decide) (by show (0 : Int) ≤ 0; decide) (by show (0 : Int) ≤ 65535; decide)
  have HRC : Hid _ := hTS.rc
  clear hTS hti
  generalize rawP ⟨pid, 0, 0, 9, pr, h, f, BI⟩ = R9 at HRW HRC
  generalize bump [0, 0, 0, 0, 0, 0, 0, 0, 0, 0, 0, 0, 0, 0, 0, 0, 0, 0] 0 = C1 at HRC
  obtain ⟨OUT, hOUT⟩ : ∃ OUT, OUT = rawP ⟨pid, 0, 0, 8, pr, 3405803781, f, BO⟩ := ⟨_, rfl⟩
  rw [← hOUT] at HRC
  have HOUT : Hid (OUT = rawP ⟨pid, 0, 0, 8, pr, 3405803781, f, BO⟩) := hOUT
  clear hOUT
  go_wp2_with fail
  refine (HRW.out _).mono ?_
  rintro e w4 ⟨rfl, hb1⟩
  have hM1 := hM.out.call hb1
  clear hM hb1 p0 p1 p2 p3 p4 p5 p6 p7 pf
  have hM : Hid _ := hM1
  clear hM1
  go_wp2_with fail
  refine (HRC.out _ _ hM.out.box).mono ?_
  rintro e w5 ⟨fv, rfl, hfr, v5, hbx, hch⟩
  obtain ⟨g0, fc0, rfl, hg0⟩ := hfr.one
  clear hfr
  have hM1 := hM.out.change hbx hch
  clear hM hbx hch
  have hM : Hid _ := hM1
  have HG0 : Hid _ := hg0
  clear hM1 hg0
  go_upto_region 13 with fail
  go_cut [16] (fun s16 wx => ∃ kd, s16 = .int .i64 kd ∧ (kd = 3 ∨ kd = 11 ∨ kd = 12) ∧ Below w5.heap.size w5 wx)
  case first =>
    have hk3 : k3 = 0 ∨ k3 = 1 ∨ k3 = 2 := by omega
    rcases hk3 with rfl | rfl | rfl
    · go_wp2_with (go_at_call 12; refine (HP3.out _).mono ?_; rintro e w'' ⟨rfl, rfl⟩)
      go_meet
      exact ⟨3, rfl, by decide, (Below.refl _ _).alloc (Nat.le_refl _) _⟩
    · go_wp2_with (go_at_call 12; refine (HP3.out _).mono ?_; rintro e w'' ⟨rfl, rfl⟩)
      go_meet
      exact ⟨11, rfl, by decide, (Below.refl _ _).alloc (Nat.le_refl _) _⟩
    · go_wp2_with (go_at_call 12; refine (HP3.out _).mono ?_; rintro e w'' ⟨rfl, rfl⟩)
      go_meet
      exact ⟨12, rfl, by decide, (Below.refl _ _).alloc (Nat.le_refl _) _⟩
  case rest =>
  obtain ⟨kd, rfl, hkd, hb1⟩ := hcut
  have hM1 := hM.out.call hb1
  have hg := frk hb1 HG0.out
  clear hM HG0 hb1 hk5 HP2 HP3 HRC HRW
  have hM : Hid _ := hM1
  have HG0 : Hid _ := hg
  clear hM1 hg
  have hti := HTI.out
  have hpi := HPI.out
  have hos : OUT.size = 37 := by rw [HOUT.out, size_raw0, hti.so]
  have HWD : Hid (∀ W, Calls Tryz.prog 22 #[.int .i64 kd, .int .i64 1] W fun e w' => e = .returned (.string (wideI kd 1)) ∧ Below W.heap.size W w') := fun W => wideI_any _ _ W (by decide) (by decide)
  have hws : (wideI kd 1).size = 1 := wideI_size kd 1
  have HSE : Hid (∀ W, Calls Tryz.prog 23 #[.string (wideI kd 1 ++ ⟨#[1, 0, 0, 0, 0, 0, 0]⟩ ++ OUT), .int .i64 2, .string ⟨#[]⟩] W fun e w' => e = .returned (.string (errB' kd OUT)) ∧ Below W.heap.size W w') := fun W => by
    have e0 : (wideI kd 1 ++ ⟨#[1, 0, 0, 0, 0, 0, 0]⟩ ++ OUT).size = 45 := by
      rw [ByteArray.size_append, ByteArray.size_append, hws, hos]
      rfl
    exact ksealed_any (err0 kd OUT) 2 ⟨#[]⟩ W (by unfold err0; omega) (by unfold err0; omega) (by decide)
  obtain ⟨IN, hIN⟩ : ∃ IN, IN = rawP ⟨pid, 0, 0, 8, pr, h, f, BI⟩ := ⟨_, rfl⟩
  have hins : IN.size = 37 := by rw [hIN, size_raw0, hti.si]
  have hpr : 0 ≤ pr ∧ pr ≤ 255 := by rcases hti.hq with e | e <;> omega
  have hh0 := hti.h0
  have hh1 := hti.h1
  have hf0 := hti.f0
  have hf1 := hti.f1
  have HON : Hid (∀ w v, BoxAt w b v (stN 2 0 C1 [x]) → Calls Tryz.prog 24 #[.pointer (some ⟨b, 0, none⟩), .int .i64 1, .agg #[.int .i64 3, .int .i64 0, .int .i64 0, .int .i64 40, .int .i64 1, .int .i64 g, .int .i64 3405803781, .string (errB' kd OUT)], .int .i64 0] w fun e w' => e = .returned (.tuple #[.agg #[.int .i64 3, .int .i64 0, .int .i64 0, .int .i64 39, .int .i64 1, .int .i64 g, .int .i64 h, .string (errB' kd IN)], .bool true]) ∧ ∃ v', BoxAt w' b v' (stN 2 0 (bump C1 0) [x]) ∧ Chg b v w w' v') := by
    have ho := (err_one hti b C1 g kd hkd HG.out.1 HG.out.2).run
    rw [← HOUT.out, ← hIN] at ho
    exact ho
  have HEL0 : bl (errB' kd OUT) = XM kd (65535 - foldI (XS kd (bl OUT))) (HDS (20 + (17 : Nat)) pid 0 8 pr 3405803781 f ++ bl BO) := by
    rw [bl_errB]
    have hb := bl_raw0 pid 8 pr 3405803781 f BO
    rw [← HOUT.out, hti.so] at hb
    rw [hb]
    rfl
  have hms : (errB' kd OUT).size = 45 := by rw [errB_size, hos]
  have hms' : (errB' kd IN).size = 45 := by rw [errB_size, hins]
  have hM8 : (errB' kd IN).extract 8 (errB' kd IN).size = IN := by
    apply bl_inj
    rw [bl_ex, bl_errB, hms']
    have e : (XMS kd (bl IN)).drop 8 = bl IN := rfl
    rw [e, List.take_of_length_le (by rw [bl_length]; omega)]
  have HNO : Hid (∀ w v, BoxAt w b v (stN 2 0 (bump C1 0) [x]) → Calls Tryz.prog 28 #[.pointer (some ⟨b, 0, none⟩), .int .i64 1, .agg #[.int .i64 3, .int .i64 0, .int .i64 0, .int .i64 40, .int .i64 1, .int .i64 g, .int .i64 3405803781, .string (elsM (errB' kd OUT) (f + 201))], .int .i64 16] w fun e w' => e = .returned (.bool true) ∧ ∃ v', BoxAt w' b v' (stN 2 0 (bump (bump C1 0) 16) [x]) ∧ Chg b v w w' v') :=
    err_none hti b (bump C1 0) g kd (elsM (errB' kd OUT) (f + 201)) _ (bl_elsM HEL0 (f + 201)) hkd HG.out.1 HG.out.2
  have HEL : Hid (∀ W, Calls Tryz.prog 27 #[.agg #[.int .i64 3, .int .i64 0, .int .i64 0, .int .i64 40, .int .i64 1, .int .i64 g, .int .i64 3405803781, .string (errB' kd OUT)], .int .i64 f] W fun e w' => e = .returned (.agg #[.int .i64 3, .int .i64 0, .int .i64 0, .int .i64 40, .int .i64 1, .int .i64 g, .int .i64 3405803781, .string (elsM (errB' kd OUT) (f + 201))]) ∧ Below W.heap.size W w') := fun W => elsewhere_any ⟨3, 0, 0, 40, 1, g, 3405803781, ⟨#[]⟩⟩ (errB' kd OUT) f W (by omega) (by omega) (by omega) (by omega)
  have hpar : parP IN = ⟨pid, 0, 0, 8, pr, h, f, BI⟩ := by rw [hIN]; exact par_raw0 pid 8 pr h f BI hpi.1 hpi.2 (by decide) (by decide) hpr.1 hpr.2 (by omega) (by omega) (by omega) (by omega)
  have HPA : Hid (∀ W, Calls Tryz.prog 25 #[.string IN] W fun e w' => e = .returned (.tuple #[.agg #[.int .i64 pid, .int .i64 0, .int .i64 0, .int .i64 8, .int .i64 pr, .int .i64 h, .int .i64 f, .string BI], .bool true]) ∧ Below W.heap.size W w') := fun W => by
    have hbl := bl_raw0 pid 8 pr h f BI
    rw [← hIN] at hbl
    obtain ⟨k0, k1, k2, -, -, -, -, -, -, -⟩ := HD_word _ _ _ _ _ _ _ _ _ _ hbl
    have hp := parsed_yes IN W (by omega) (by omega) (k2.trans (by rw [hti.si, hins]; decide)) k0 k1 (whole_sum hbl)
    rw [hpar] at hp
    exact hp
  have HHN : Hid (∀ W, Calls Tryz.prog 26 #[.agg #[.int .i64 pid, .int .i64 0, .int .i64 0, .int .i64 8, .int .i64 pr, .int .i64 h, .int .i64 f, .string BI]] W fun e w' => e = .returned (.bool true) ∧ Below W.heap.size W w') := fun W => by
    have hh := honest_any ⟨pid, 0, 0, 8, pr, h, f, BI⟩ W (by show BI.size ≤ 1000; rw [hti.si]; decide)
    rw [hti.hon ⟨pid, 0, 0, 8, pr, h, f, BI⟩ rfl rfl rfl rfl] at hh
    exact hh
  have HR8 : Hid (∀ W, Calls Tryz.prog 20 #[.agg #[.int .i64 pid, .int .i64 0, .int .i64 0, .int .i64 8, .int .i64 pr, .int .i64 h, .int .i64 f, .string BI]] W fun e w' => e = .returned (.string IN) ∧ Below W.heap.size W w') := fun W => by
    rw [hIN]
    exact raw_any ⟨pid, 0, 0, 8, pr, h, f, BI⟩ W (by show BI.size ≤ 1000000; rw [hti.si]; decide) (by show (0 : Int) ≤ 0; decide) (by show (0 : Int) ≤ 7; decide) (by show (0 : Int) ≤ 0; decide) (by show (0 : Int) ≤ 65535; decide)
  clear HEL0 hIN hpar hti hpi hpr hh0 hh1 hf0 hf1 HTI HPI HOUT hkd
  have m1 : ¬ 9223372036854775807 < (wideI kd 1).size + 7 := by omega
  have m2 : ¬ 9223372036854775807 < (wideI kd 1).size + 7 + OUT.size := by omega
  have m3 : (8 : Int) ≤ ((errB' kd IN).size : Int) := by omega
  generalize elsM (errB' kd OUT) (f + 201) = M2 at HNO HEL
  generalize errB' kd OUT = M at HSE HON HEL hms
  generalize errB' kd IN = M' at HON hM8 m3 hms'
  generalize wideI kd 1 = W1 at HWD HSE m1 m2 hws
  generalize bump (bump C1 0) 16 = C3 at HNO
  generalize bump C1 0 = C2 at HNO HON
  clear hms hms' hws hos hins
  go_wp2_with fail
  refine (HFG.out _).mono ?_; rintro e w'' ⟨rfl, hwq⟩; obtain rfl := hwq.symm
  clear hwq
  go_wp2_with fail
  refine (HWD.out _).mono ?_
  rintro e w6 ⟨rfl, hb1⟩
  have hM1 := (hM.out.alloc' #[.int .i64 3, .int .i64 0, .int .i64 0, .int .i64 40, .int .i64 1, .int .i64 g, .int .i64 3405803781, .string ⟨#[]⟩] 37 wc.heap.size rfl).call hb1
  obtain ⟨lf, l0, l1⟩ := frk hb1 (frk ((Below.refl _ _).alloc (Nat.le_refl _) _) HG0.out)
  clear hM HG0 hb1
  obtain ⟨⟨e0, e1, e2, e3, e4, e5, e6, e7⟩, ef⟩ := c8 hM1.at0
  have hM : Hid _ := hM1
  clear hM1
  go_wp2_with fail
  refine (HSE.out _).mono ?_
  rintro e w7 ⟨rfl, hb1⟩
  have hM1 := (hM.out.set0 7 (.string (W1 ++ ⟨#[1, 0, 0, 0, 0, 0, 0]⟩ ++ OUT))).call hb1
  simp only [List.setIfInBounds_toArray, List.set_cons_zero, List.set_cons_succ] at hM1
  clear hM hb1 e0 e1 e2 e3 e4 e5 e6 e7 ef l0 l1 lf
  obtain ⟨⟨e0, e1, e2, e3, e4, e5, e6, e7⟩, ef⟩ := c8 hM1.at0
  have hM2 := hM1.set0 7 (.string M)
  simp only [List.setIfInBounds_toArray, List.set_cons_zero, List.set_cons_succ] at hM2
  clear hM1
  have hM : Hid _ := hM2
  clear hM2 HSE HWD
  go_wp2_with fail
  refine (HON.out _ _ hM.out.box).mono ?_
  rintro e w8 ⟨rfl, v8, hbx, hch⟩
  have hM1 := hM.out.change hbx hch
  clear hM hbx hch e0 e1 e2 e3 e4 e5 e6 e7 ef
  obtain ⟨⟨e0, e1, e2, e3, e4, e5, e6, e7⟩, ef⟩ := c8 hM1.at0
  have n1 := lt_of_block hM1.at0
  have hM2 := hM1.alloc' #[.int .i64 3, .int .i64 0, .int .i64 0, .int .i64 39, .int .i64 1, .int .i64 g, .int .i64 h, .string M'] 37 w8.heap.size rfl
  clear hM1
  have hM : Hid _ := hM2
  clear hM2
  go_wp2_with fail
  refine (HPA.out _).mono ?_
  rintro e w9 ⟨rfl, hb1⟩
  have hM1 := (hM.out.call hb1).alloc' #[.int .i64 pid, .int .i64 0, .int .i64 0, .int .i64 8, .int .i64 pr, .int .i64 h, .int .i64 f, .string BI] 37 w9.heap.size rfl
  clear hM hb1 e0 e1 e2 e3 e4 e5 e6 e7 ef n1
  have hM : Hid _ := hM1
  clear hM1
  go_wp2_with fail
  refine (HHN.out _).mono ?_
  rintro e wh ⟨rfl, hb1⟩
  have hM1 := hM.out.call hb1
  clear hM hb1
  obtain ⟨⟨q0, q1, q2, q3, q4, q5, q6, q7⟩, qf⟩ := c8 hM1.at0
  obtain ⟨⟨p0, p1, p2, p3, p4, p5, p6, p7⟩, pf⟩ := c8 hM1.at3
  have nn : w9.heap.size ≠ w2.heap.size := by
    have := (List.pairwise_cons.1 hM1.ord).1 (w2.heap.size, #[.int .i64 pid, .int .i64 0, .int .i64 0, .int .i64 9, .int .i64 pr, .int .i64 h, .int .i64 f, .string BI], 37) (by simp)
    simp only at this
    omega
  have nm : w2.heap.size ≠ w9.heap.size := fun e => nn e.symm
  have hM2 := hM1.setAt (pre := [_, _, _]) 3 (.int .i64 8)
  simp only [List.setIfInBounds_toArray, List.set_cons_zero, List.set_cons_succ, List.cons_append, List.nil_append] at hM2
  clear hM1
  have hM : Hid _ := hM2
  clear hM2
  go_wp2_with fail
  refine (HR8.out _).mono ?_
  rintro e wi ⟨rfl, hb1⟩
  have hM1 := hM.out.call hb1
  clear hM hb1 q0 q1 q2 q3 q4 q5 q6 q7 qf p0 p1 p2 p3 p4 p5 p6 p7 pf nn nm
  obtain ⟨⟨p0, p1, p2, p3, p4, p5, p6, p7⟩, pf⟩ := c8 hM1.at3
  have hM : Hid _ := hM1
  clear hM1
  go_wp2_with fail
  refine (HR8.out _).mono ?_
  rintro e wj ⟨rfl, hb1⟩
  have hM1 := hM.out.call hb1
  clear hM hb1 p0 p1 p2 p3 p4 p5 p6 p7 pf
  obtain ⟨⟨e0, e1, e2, e3, e4, e5, e6, e7⟩, ef⟩ := c8 hM1.at2
  have hM : Hid _ := hM1
  clear hM1
  go_wp2_with fail
  refine (HEL.out _).mono ?_
  rintro e wk ⟨rfl, hb1⟩
  have hM1 := (hM.out.call hb1).alloc' #[.int .i64 3, .int .i64 0, .int .i64 0, .int .i64 40, .int .i64 1, .int .i64 g, .int .i64 3405803781, .string M2] 37 wk.heap.size rfl
  clear hM hb1 e0 e1 e2 e3 e4 e5 e6 e7 ef
  have hM : Hid _ := hM1
  clear hM1
  go_wp2_with fail
  refine (HNO.out _ _ hM.out.box).mono ?_
  rintro e wl ⟨rfl, vl, hbx, hch⟩
  have hM1 := hM.out.change hbx hch
  clear hM hbx hch
  have hM : Hid _ := hM1
  clear hM1
  go_wp2_with fail
  go_ret
  refine ⟨rfl, ?_⟩
  obtain ⟨q1, -⟩ := hM.out.chg.low HL.out.1 (fun k hk => absurd hk (by simp [Value.ownBlock])) HL.out.2.size
  exact HL.out.2.trans q1
theorem Trouble_any (a c kind : Int) (w : World) (ha0 : -9223372036854775808 ≤ a) (ha1 : a ≤ 9223372036854775807) (hc0 : -9223372036854775808 ≤ c) (hc1 : c ≤ 9223372036854775807) (hd0 : -9223372036854775808 ≤ kind) (hd1 : kind ≤ 9223372036854775807) :
    Calls Tryz.prog 3 #[.int .i64 a, .int .i64 c, .int .i64 kind] w fun e w' => e = .returned (.bool true) ∧ Below w.heap.size w w' := by
  have HR : Hid (∀ w, Calls Tryz.prog 8 #[.int .i64 a, .int .i64 c, .int .i64 kind] w fun e w' => e = .returned (.bool true) ∧ Below w.heap.size w w') := fun w => ktrouble_any a c kind w ha0 ha1 hc0 hc1 hd0 hd1
  go_enter Tryz.func3, Tryz.ntmps3
  go_wp2_with (go_at_call 8; refine (HR.out _).mono ?_; rintro e w1 ⟨rfl, hb1⟩)
  go_ret
  exact ⟨rfl, hb1⟩
end Go.Proofs.YtfkjobiapjhacabGreat
