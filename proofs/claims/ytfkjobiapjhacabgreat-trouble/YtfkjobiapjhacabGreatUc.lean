/- Errors about what an inner end has sent: through a box. Own work. -/
import Derived.Test.YtfkjobiapjhacabGreatUb
namespace Go.Proofs.YtfkjobiapjhacabGreat
open Go.RowKit

theorem bl_raw0 (i ttl pr s d : Int) (B : ByteArray) : bl (rawP ⟨i, 0, 0, ttl, pr, s, d, B⟩) = HDS (20 + (B.size : Int)) i 0 ttl pr s d ++ bl B := by
  have e0 : flagW 0 0 = 0 := by decide
  rw [bl_rawP]
  simp only [e0]
theorem par_raw0 (i ttl pr s d : Int) (B : ByteArray) (i0 : 0 ≤ i) (i1 : i ≤ 65535) (t0 : 0 ≤ ttl) (t1 : ttl ≤ 255) (p0 : 0 ≤ pr) (p1 : pr ≤ 255) (s0 : 0 ≤ s) (s1 : s ≤ 4294967295) (d0 : 0 ≤ d) (d1 : d ≤ 4294967295) : parP (rawP ⟨i, 0, 0, ttl, pr, s, d, B⟩) = ⟨i, 0, 0, ttl, pr, s, d, B⟩ := by
  rw [whole_par (bl_raw0 i ttl pr s d B) rfl]
  have e1 : s % 4294967296 = s := by omega
  have e2 : d % 4294967296 = d := by omega
  have q1 : i % 65536 = i := by omega
  have q2 : (0 : Int) % 65536 / 8192 = 0 := by decide
  have q3 : (0 : Int) % 65536 % 8192 * 8 = 0 := by decide
  have q4 : ttl % 256 = ttl := by omega
  have q5 : pr % 256 = pr := by omega
  rw [e1, e2, q1, q2, q3, q4, q5]
theorem size_raw0 (i ttl pr s d : Int) (B : ByteArray) : (rawP ⟨i, 0, 0, ttl, pr, s, d, B⟩).size = 20 + B.size := by
  rw [← bl_length, bl_raw0, List.length_append, HDS_length, bl_length]
theorem err_one {pid q h i f fp : Int} {BO BI : ByteArray} {x : SD} (t : TI pid q h i f fp BO BI x) (b : Nat) (cs : List Int) (g kd : Int) (hk : kd = 3 ∨ kd = 11 ∨ kd = 12) (g0 : 134744064 ≤ g) (g1 : g ≤ 134744300) :
    OneOK b (stN 2 0 cs [x]) 1 ⟨3, 0, 0, 40, 1, g, 3405803781, errB' kd (rawP ⟨pid, 0, 0, 8, q, 3405803781, f, BO⟩)⟩ 0 ⟨3, 0, 0, 39, 1, g, h, errB' kd (rawP ⟨pid, 0, 0, 8, q, h, f, BI⟩)⟩ (stN 2 0 (bump cs 0) [x]) := by
  have hso := size_raw0 pid 8 q 3405803781 f BO
  have hsi := size_raw0 pid 8 q h f BI
  have hM := bl_errB kd (rawP ⟨pid, 0, 0, 8, q, 3405803781, f, BO⟩)
  have hM' := bl_errB kd (rawP ⟨pid, 0, 0, 8, q, h, f, BI⟩)
  have hzM := errB_size kd (rawP ⟨pid, 0, 0, 8, q, 3405803781, f, BO⟩)
  have hzM' := errB_size kd (rawP ⟨pid, 0, 0, 8, q, h, f, BI⟩)
  rw [hso, t.so] at hzM
  rw [hsi, t.si] at hzM'
  have hlen : (bl (rawP ⟨pid, 0, 0, 8, q, 3405803781, f, BO⟩)).length ≤ 120 := by rw [bl_length, hso, t.so]; decide
  have hbo := bl_raw0 pid 8 q 3405803781 f BO
  have hbi := bl_raw0 pid 8 q h f BI
  rw [t.so] at hbo
  rw [t.si] at hbi
  generalize (rawP ⟨pid, 0, 0, 8, q, 3405803781, f, BO⟩) = OUT at *
  generalize (rawP ⟨pid, 0, 0, 8, q, h, f, BI⟩) = IN at *
  generalize errB' kd OUT = M at *
  generalize errB' kd IN = M' at *
  have hf0 := t.f0
  have hf1 := t.f1
  have hh0 := t.h0
  have hh1 := t.h1
  have hok := okb_cs t.okb cs
  obtain ⟨hH, hon⟩ := err_hand (stN 2 0 cs [x]) g M kd (bl OUT) hM hk hlen (by omega) (by omega) (show (0 : Int) ≤ 3405803781 by decide) (show (3405803781 : Int) ≤ 4294967295 by decide) (may_out _ rfl rfl g (by omega) (show ¬ g = 3405803781 by omega))
  have hMx : bl M = XM kd (65535 - foldI (XS kd (bl OUT))) (HDS (20 + (17 : Nat)) pid 0 8 q 3405803781 f ++ bl BO) := by rw [hM, hbo]; rfl
  have hT := err_tr t cs g M (20 + (17 : Nat)) kd _ f hMx (by omega) (by omega)
  rw [if_neg (by rw [t.has]; decide)] at hT
  have hret := X_ret hMx (by rw [t.so]; decide) (by rcases t.hq with e | e; exact Or.inr (Or.inr e); exact Or.inl e) (by decide) (by decide) (by omega) (by omega) g h h i f fp (B' := BI) (by rw [t.po]; exact t.sh)
  have hraw : onHead ((rawP ⟨3, 0, 0, 40, 1, g, 3405803781, M⟩).extract 0 20) g h ++ retM M g h h i f fp = rawP ⟨3, 0, 0, 39, 1, g, h, M'⟩ := by
    apply bl_inj
    rw [bl_app, bl_raw0, hret, hM', hbi]
    have := hon g h
    rw [show (stN 2 0 cs [x]).ou = 3405803781 from rfl] at this
    rw [this, hzM, hzM']
  have hR : RecvAt b (stN 2 0 cs [x]) 1 (rawP ⟨3, 0, 0, 40, 1, g, 3405803781, M⟩) 0 (some (0, rawP ⟨3, 0, 0, 39, 1, g, h, M'⟩)) (stN 2 0 (bump cs 0) [x]) := fun W v hbx => by
    have hr := Receive_any hbx hok 1 (rawP ⟨3, 0, 0, 40, 1, g, 3405803781, M⟩) (Or.inr (TrOK_all b _ hok t.okt)) (err_np g 3405803781 M)
    have hH2 : handM (stN 2 0 cs [x]) 1 (rawP ⟨3, 0, 0, 40, 1, g, 3405803781, M⟩) = ⟨0, some (0, rawP ⟨3, 0, 0, 39, 1, g, h, M'⟩), [x]⟩ := by
      refine hH.trans ?_
      have e : trW (stN 2 0 cs [x]) 1 1 g 0 (stN 2 0 cs [x]).ou 0 M = ⟨0, 0, 1, g, 0, h, 0, retM M g h h i f fp⟩ := hT
      rw [e]
      unfold wayH
      rw [if_pos rfl]
      show (⟨0, some (0, onHead ((rawP ⟨3, 0, 0, 40, 1, g, 3405803781, M⟩).extract 0 20) g h ++ retM M g h h i f fp), [x]⟩ : HR) = _
      rw [hraw]
    rw [hH2] at hr
    exact hr
  have hpar := par_raw0 3 39 1 g h M' (by decide) (by decide) (by decide) (by decide) (by decide) (by decide) (by omega) (by omega) (by omega) (by omega)
  have hbl := bl_raw0 3 39 1 g h M'
  have hz := size_raw0 3 39 1 g h M'
  obtain ⟨k0, k1, k2, -, -, -, -, -, -, -⟩ := HD_word _ _ _ _ _ _ _ _ _ _ hbl
  have hsum : sumI M' = 65535 := by rw [sumI_bl, hM', XMS_sum]
  refine ⟨fun w v hbx => ?_⟩
  have ho := one_yes hbx 1 0 ⟨3, 0, 0, 40, 1, g, 3405803781, M⟩ ⟨by show M.size ≤ 1000; omega, (by decide : (0 : Int) ≤ 0), (by decide : (0 : Int) ≤ 7), (by decide : (0 : Int) ≤ 0), (by decide : (0 : Int) ≤ 65535)⟩ (rawP ⟨3, 0, 0, 39, 1, g, h, M'⟩) hR (by omega) (by omega) (k2.trans (by rw [hz]; omega)) k0 k1 (whole_sum hbl)
    (by rw [hpar]; show honB ⟨3, 0, 0, 39, 1, g, h, M'⟩ = true; unfold honB; rw [if_neg (fun e => absurd e.1 (show ¬ (1 : Int) = 17 by decide)), if_pos rfl]; show (sumI M' == 65535) = true; rw [hsum]; rfl) (by rw [hpar]) (by rw [hpar]) (by rw [hpar]) (by rw [hpar]) (by rw [hpar]; rfl) (by show (-1000 : Int) ≤ 40; decide) (by show (40 : Int) ≤ 1000; decide)
  rw [hpar] at ho
  exact ho
theorem err_none {pid q h i f fp : Int} {BO BI : ByteArray} {x : SD} (t : TI pid q h i f fp BO BI x) (b : Nat) (cs : List Int) (g kd : Int) (M : ByteArray) (n : Int) (hM : bl M = XMS kd (HDS n pid 0 8 q 3405803781 (f + 201) ++ bl BO)) (hk : kd = 3 ∨ kd = 11 ∨ kd = 12) (g0 : 134744064 ≤ g) (g1 : g ≤ 134744300) :
    NoneOK b (stN 2 0 cs [x]) 1 ⟨3, 0, 0, 40, 1, g, 3405803781, M⟩ 16 (stN 2 0 (bump cs 16) [x]) := by
  have hf0 := t.f0
  have hf1 := t.f1
  have hlen : (HDS n pid 0 8 q 3405803781 (f + 201) ++ bl BO).length = 37 := by rw [List.length_append, HDS_length, bl_length, t.so]
  have hzM : M.size = 45 := by rw [← bl_length, hM, XMS_length, hlen]
  have hok := okb_cs t.okb cs
  obtain ⟨hH, -⟩ := err_hand (stN 2 0 cs [x]) g M kd _ hM hk (by rw [hlen]; decide) (by omega) (by omega) (show (0 : Int) ≤ 3405803781 by decide) (show (3405803781 : Int) ≤ 4294967295 by decide) (may_out _ rfl rfl g (by omega) (show ¬ g = 3405803781 by omega))
  have hT := err_tr t cs g M n kd _ (f + 201) hM (by omega) (by omega)
  rw [if_pos t.hasnt] at hT
  have hR : RecvAt b (stN 2 0 cs [x]) 1 (rawP ⟨3, 0, 0, 40, 1, g, 3405803781, M⟩) 16 none (stN 2 0 (bump cs 16) [x]) := fun W v hbx => by
    have hr := Receive_any hbx hok 1 (rawP ⟨3, 0, 0, 40, 1, g, 3405803781, M⟩) (Or.inr (TrOK_all b _ hok t.okt)) (err_np g 3405803781 M)
    have hH2 : handM (stN 2 0 cs [x]) 1 (rawP ⟨3, 0, 0, 40, 1, g, 3405803781, M⟩) = ⟨16, none, [x]⟩ := by
      refine hH.trans ?_
      have e : trW (stN 2 0 cs [x]) 1 1 g 0 (stN 2 0 cs [x]).ou 0 M = noW 16 := hT
      rw [e]
      unfold wayH
      rw [if_neg (by decide)]
      rfl
    rw [hH2] at hr
    exact hr
  exact fun w v hbx => none_yes hbx 1 16 ⟨3, 0, 0, 40, 1, g, 3405803781, M⟩ ⟨by show M.size ≤ 1000; omega, (by decide : (0 : Int) ≤ 0), (by decide : (0 : Int) ≤ 7), (by decide : (0 : Int) ≤ 0), (by decide : (0 : Int) ≤ 65535)⟩ hR
theorem TI_udp (h i f j : Int) (hr : RQ h i f j) : TI 7 17 h i f j (udpB 3405803781 5000 f j ⟨#[115, 111, 109, 101, 32, 100, 97, 116, 97]⟩) (udpB h i f j ⟨#[115, 111, 109, 101, 32, 100, 97, 116, 97]⟩) (S1 h i f j 5000 (0 + 30)) := by
  obtain ⟨h0, h1, p0, p1, f0, f1, q0, q1⟩ := hr
  have hz : (⟨#[115, 111, 109, 101, 32, 100, 97, 116, 97]⟩ : ByteArray).size = 9 := rfl
  refine ⟨Or.inl rfl, ?_, fun e => absurd e (by decide), by rw [innerI_one, if_pos rfl], rfl, rfl, by rw [hasS_one]; exact decide_eq_true ⟨rfl, rfl, rfl, rfl⟩, by rw [hasS_one]; exact decide_eq_false (fun e => by have := e.2.2.1; omega), ?_, by rw [udpB_size, hz], by rw [udpB_size, hz], fun p k1 k2 k3 k4 => udp_hon (bl_udpB h i f j ⟨#[115, 111, 109, 101, 32, 100, 97, 116, 97]⟩) p k1 k2 k3 k4, stN_one 2 0 [] h i f j 5000 (0 + 30) (by decide) (by decide) (by decide) (by decide) (by omega) (by omega), ?_, h0, h1, f0, f1⟩
  · obtain ⟨w0, w2, -, -⟩ := UM_words (bl_udpB 3405803781 5000 f j ⟨#[115, 111, 109, 101, 32, 100, 97, 116, 97]⟩)
    unfold portsOf
    rw [if_pos (by decide), w0, w2]
    have e1 : (5000 : Int) % 65536 = 5000 := by decide
    have e2 : j % 65536 = j := by omega
    rw [e1, e2]
  · exact shift_udp 3405803781 5000 f j h i f j ⟨#[115, 111, 109, 101, 32, 100, 97, 116, 97]⟩ (by decide) (by decide) (by decide) (by decide) (by decide) (by omega) (by omega) q0 q1 (by omega) (by omega) p0 p1 (by omega) (by omega) q0 q1
  · intro y hy
    have hy' : y ∈ [S1 h i f j 5000 (0 + 30)] := hy
    rw [List.mem_singleton] at hy'
    subst hy'
    exact ⟨⟨show 0 ≤ i by omega, show i ≤ 65535 by omega⟩, (by decide : (0 : Int) ≤ 5000 ∧ (5000 : Int) ≤ 65535)⟩
theorem TI_echo (h f j : Int) (hr : RE h j f) : TI 9 1 h j f 0 (eBody 8 5000 ⟨#[115, 111, 109, 101, 32, 100, 97, 116, 97]⟩) (eBody 8 j ⟨#[115, 111, 109, 101, 32, 100, 97, 116, 97]⟩) (E1 h j f 5000 (0 + 10)) := by
  obtain ⟨h0, h1, i0, i1, f0, f1⟩ := hr
  have hz : (⟨#[115, 111, 109, 101, 32, 100, 97, 116, 97]⟩ : ByteArray).size = 9 := rfl
  refine ⟨Or.inr rfl, ?_, fun _ => ?_, by rw [innerE_one, if_pos rfl], rfl, rfl, by rw [hasE_one]; exact decide_eq_true ⟨rfl, rfl, rfl, rfl⟩, by rw [hasE_one]; exact decide_eq_false (fun e => by have := e.2.2.1; omega), ?_, by rw [eBody_size, hz], by rw [eBody_size, hz], fun p k1 _ _ k4 => echo_hon (bl_echoB 8 j ⟨#[115, 111, 109, 101, 32, 100, 97, 116, 97]⟩) p k1 k4, stE_one 2 0 [] h j f 5000 (0 + 10) (by decide) (by decide) (by decide) (by decide) (by omega) (by omega), ?_, h0, h1, f0, f1⟩
  · exact ((eBody_is 8 5000 ⟨#[115, 111, 109, 101, 32, 100, 97, 116, 97]⟩ (Or.inl rfl) (by decide) (by decide)).2.2.2).trans (if_pos rfl)
  · exact ((EM_words (bl_echoB 8 5000 ⟨#[115, 111, 109, 101, 32, 100, 97, 116, 97]⟩)).1).trans (by decide)
  · exact shift_echo 3405803781 5000 f 0 h j f 0 5000 ⟨#[115, 111, 109, 101, 32, 100, 97, 116, 97]⟩ (by decide) (by decide) i0 i1
  · intro y hy
    have hy' : y ∈ [E1 h j f 5000 (0 + 10)] := hy
    rw [List.mem_singleton] at hy'
    subst hy'
    exact ⟨⟨show 0 ≤ j by omega, show j ≤ 65535 by omega⟩, (by decide : (0 : Int) ≤ 5000 ∧ (5000 : Int) ≤ 65535)⟩
end Go.Proofs.YtfkjobiapjhacabGreat
