/- Turned, purely. Own work. -/
import Derived.Test.YtfkjobiapjhacaaGreatKpK
namespace Go.Proofs.YtfkjobiapjhacaaGreat
open Go.RowKit

theorem stK_ok (n tm : Int) (cs : List Int) (l : List SD) (ks : List KY) (n0 : 1 ≤ n) (n1 : n ≤ 12) (h0 : 0 ≤ tm) (h1 : tm ≤ 1000000) (hk : Ks l ks) (hl : ks.length ≤ 100) (hi : ∀ k ∈ ks, 0 ≤ k.2.1 ∧ k.2.1 ≤ 4294967295) : OKB (stN n tm cs l) :=
  stN_ok n tm cs l n0 n1 h0 h1 (by rw [hk.len]; exact hl) (fun x hx => hi (ky x) ((hk.mem _).1 ⟨x, hx, rfl⟩))
/-- What is asked of a list of keys. -/
structure KOK (ks : List KY) : Prop where
  len : ks.length ≤ 100
  ia : ∀ k ∈ ks, 0 ≤ k.2.1 ∧ k.2.1 ≤ 4294967295
theorem t_new (b : Nat) (n : Int) (cs : List Int) (l : List SD) (ks : List KY) (n0 : 1 ≤ n) (n1 : n ≤ 12) (hk : Ks l ks) (ho : KOK ks) (a p c d P : Int) (data : ByteArray) (hr : URange a p c d data) (ha0 : 167772160 ≤ a) (ha1 : a < 184549376) (hc : ¬ (167772160 ≤ c ∧ c < 184549376)) (hcu : ¬ c = 3405803781)
    (hno : ∀ P, (17, a, p, c, d, P) ∉ ks) (hlen : ks.length < 10) (hP : askP (stN n 0 cs l) 17 a p = P) (hP0 : ¬ P = 0) (hu : ∀ fa fp P', (17, a, p, fa, fp, P') ∈ (17, a, p, c, d, P) :: ks → P' = P) :
    ∃ l', Ks l' ((17, a, p, c, d, P) :: ks) ∧ OneOK b (stN n 0 cs l) 0 (udpP a p c d data) 1 ⟨7, 0, 0, 8, 17, 3405803781, c, udpB 3405803781 P c d data⟩ (stN n 0 (bump cs 0) l') := by
  obtain ⟨hW, hL⟩ := ask_new (stN n 0 cs l) ks hk a p c d P (byteAt (udpB a p c d data) 13) hno hlen hP hP0
  obtain ⟨hI, hO⟩ := ins_mid (stN n 0 cs l) _ a p c d P (udpB a p c d data) hL (by simp) hu
  have e1 : insW (stN n 0 cs l) 17 (udpB a p c d data) a p c d = ⟨0, 1, 17, 3405803781, P, c, d, btwM 17 (udpB a p c d data) 3405803781 P c d⟩ := by
    unfold insW
    rw [if_neg (fun h => hcu h.1), hW, if_neg (by simp), if_neg (show ¬ c = (stN n 0 cs l).ou from hcu), hO]
    rfl
  have e2 : insF (stN n 0 cs l) 17 (udpB a p c d data) a p c d = insL (stN n 0 cs l) 17 (udpB a p c d data) a p c d := by
    unfold insF
    rw [if_neg (fun h => hcu h.1), hW, if_neg (by simp), if_neg (show ¬ c = (stN n 0 cs l).ou from hcu)]
  refine ⟨_, hI, ?_⟩
  exact udp_one b (stN n 0 cs l) (stK_ok n 0 cs l ks n0 n1 (by decide) (by decide) hk ho.len ho.ia) 0 a p c d data hr (Or.inl rfl) (may_in _ rfl rfl a c ha0 ha1 hc) 1 3405803781 P c d _
    ((if_pos rfl).trans e1) ((if_pos rfl).trans e2) (by decide) (by decide) hr.d0 hr.d1
theorem t_filt (b : Nat) (n : Int) (cs : List Int) (l : List SD) (ks ks' : List KY) (n0 : 1 ≤ n) (n1 : n ≤ 12) (hk : Ks l ks) (ho : KOK ks) (a p d P x y : Int) (data : ByteArray) (hr : URange a p 3405803781 d data) (ha0 : 167772160 ≤ a) (ha1 : a < 184549376)
    (hin : innE 17 d l = (true, x, y)) (hW : askW (stN n 0 cs l) 17 a p 3405803781 d (byteAt (udpB a p 3405803781 d data) 13) = 0) (hL : Ks (askL (stN n 0 cs l) 17 a p 3405803781 d (byteAt (udpB a p 3405803781 d data) 13)) ks') (hm : (17, a, p, 3405803781, d, P) ∈ ks') (hu : ∀ fa fp P', (17, a, p, fa, fp, P') ∈ ks' → P' = P)
    (hno : ∀ P', (17, x, y, 3405803781, P, P') ∉ ks') :
    ∃ l', Ks l' ks' ∧ NoneOK b (stN n 0 cs l) 0 (udpP a p 3405803781 d data) 17 (stN n 0 (bump cs 17) l') := by
  obtain ⟨hI, hO⟩ := ins_mid (stN n 0 cs l) _ a p 3405803781 d P (udpB a p 3405803781 d data) hL hm hu
  have hH : hasS 17 x y 3405803781 P (insL (stN n 0 cs l) 17 (udpB a p 3405803781 d data) a p 3405803781 d) = false := hI.hasnt hno
  have hin' : innE 17 d (stN n 0 cs l).l = (true, x, y) := hin
  have e1 : (insW (stN n 0 cs l) 17 (udpB a p 3405803781 d data) a p 3405803781 d).what = 17 := by
    unfold insW
    rw [hin', if_neg (by simp), hW, if_neg (by simp), if_pos (show (3405803781 : Int) = (stN n 0 cs l).ou from rfl), hO]
    unfold turnW
    rw [if_neg (by intro e; rw [show hasS 17 x y (stN n 0 cs l).ou P _ = false from hH] at e; cases e)]
  have e2 : insF (stN n 0 cs l) 17 (udpB a p 3405803781 d data) a p 3405803781 d = insL (stN n 0 cs l) 17 (udpB a p 3405803781 d data) a p 3405803781 d := by
    unfold insF
    rw [hin', if_neg (by simp), hW, if_neg (by simp), if_pos (show (3405803781 : Int) = (stN n 0 cs l).ou from rfl), hO]
    unfold turnL
    rw [if_neg (by intro e; rw [show hasS 17 x y (stN n 0 cs l).ou P _ = false from hH] at e; cases e)]
  refine ⟨_, hI, ?_⟩
  exact udp_none b (stN n 0 cs l) (stK_ok n 0 cs l ks n0 n1 (by decide) (by decide) hk ho.len ho.ia) 0 a p 3405803781 d data hr (Or.inl rfl) (may_in _ rfl rfl a 3405803781 ha0 ha1 (by decide)) 17 _
    ((congrArg WYD.what (if_pos rfl)).trans e1) (by decide) ((if_pos rfl).trans e2)
theorem t_turn (b : Nat) (n : Int) (cs : List Int) (l : List SD) (ks ks' : List KY) (n0 : 1 ≤ n) (n1 : n ≤ 12) (hk : Ks l ks) (ho : KOK ks) (a p d P x y : Int) (data : ByteArray) (hr : URange a p 3405803781 d data) (ha0 : 167772160 ≤ a) (ha1 : a < 184549376) (hx0 : 0 ≤ x) (hx1 : x ≤ 4294967295)
    (hin : innE 17 d l = (true, x, y)) (hW : askW (stN n 0 cs l) 17 a p 3405803781 d (byteAt (udpB a p 3405803781 d data) 13) = 0) (hL : Ks (askL (stN n 0 cs l) 17 a p 3405803781 d (byteAt (udpB a p 3405803781 d data) 13)) ks') (hm : (17, a, p, 3405803781, d, P) ∈ ks') (hu : ∀ fa fp P', (17, a, p, fa, fp, P') ∈ ks' → P' = P)
    (P' : Int) (hyes : (17, x, y, 3405803781, P, P') ∈ ks') :
    ∃ l', Ks l' ks' ∧ OneOK b (stN n 0 cs l) 0 (udpP a p 3405803781 d data) 0 ⟨7, 0, 0, 8, 17, 3405803781, x, udpB 3405803781 P x y data⟩ (stN n 0 (bump cs 0) l') := by
  obtain ⟨hI, hO⟩ := ins_mid (stN n 0 cs l) _ a p 3405803781 d P (udpB a p 3405803781 d data) hL hm hu
  have hH : hasS 17 x y 3405803781 P (insL (stN n 0 cs l) 17 (udpB a p 3405803781 d data) a p 3405803781 d) = true := hI.has hyes
  have hin' : innE 17 d (stN n 0 cs l).l = (true, x, y) := hin
  have e1 : insW (stN n 0 cs l) 17 (udpB a p 3405803781 d data) a p 3405803781 d = ⟨0, 0, 17, 3405803781, P, x, y, btwM 17 (udpB a p 3405803781 d data) 3405803781 P x y⟩ := by
    unfold insW
    rw [hin', if_neg (by simp), hW, if_neg (by simp), if_pos (show (3405803781 : Int) = (stN n 0 cs l).ou from rfl), hO]
    unfold turnW
    rw [if_pos (show hasS 17 x y (stN n 0 cs l).ou P _ = true from hH)]
    rfl
  have e2 : insF (stN n 0 cs l) 17 (udpB a p 3405803781 d data) a p 3405803781 d = passL 17 x y 3405803781 P 1 (byteAt (udpB a p 3405803781 d data) 13) 0 (insL (stN n 0 cs l) 17 (udpB a p 3405803781 d data) a p 3405803781 d) := by
    unfold insF
    rw [hin', if_neg (by simp), hW, if_neg (by simp), if_pos (show (3405803781 : Int) = (stN n 0 cs l).ou from rfl), hO]
    unfold turnL
    rw [if_pos (show hasS 17 x y (stN n 0 cs l).ou P _ = true from hH)]
    rfl
  refine ⟨_, hI.pass 17 x y 3405803781 P 1 (byteAt (udpB a p 3405803781 d data) 13) 0, ?_⟩
  exact udp_one b (stN n 0 cs l) (stK_ok n 0 cs l ks n0 n1 (by decide) (by decide) hk ho.len ho.ia) 0 a p 3405803781 d data hr (Or.inl rfl) (may_in _ rfl rfl a 3405803781 ha0 ha1 (by decide)) 0 3405803781 P x y _
    ((if_pos rfl).trans e1) ((if_pos rfl).trans e2) (by decide) (by decide) hx0 hx1
theorem t_lost (b : Nat) (n : Int) (cs : List Int) (l : List SD) (ks : List KY) (n0 : 1 ≤ n) (n1 : n ≤ 12) (hk : Ks l ks) (ho : KOK ks) (a p d : Int) (data : ByteArray) (hr : URange a p 3405803781 d data) (ha0 : 167772160 ≤ a) (ha1 : a < 184549376) (hno : ∀ ia ip fa fp, (17, ia, ip, fa, fp, d) ∉ ks) :
    NoneOK b (stN n 0 cs l) 0 (udpP a p 3405803781 d data) 16 (stN n 0 (bump cs 16) l) := by
  have hin : innE 17 d (stN n 0 cs l).l = (false, 0, 0) := (hk.inner0 hno).1
  have e1 : (insW (stN n 0 cs l) 17 (udpB a p 3405803781 d data) a p 3405803781 d).what = 16 := by
    unfold insW
    rw [hin, if_pos ⟨rfl, rfl⟩]
  have e2 : insF (stN n 0 cs l) 17 (udpB a p 3405803781 d data) a p 3405803781 d = l := by
    unfold insF
    rw [hin, if_pos ⟨rfl, rfl⟩]
    rfl
  exact udp_none b (stN n 0 cs l) (stK_ok n 0 cs l ks n0 n1 (by decide) (by decide) hk ho.len ho.ia) 0 a p 3405803781 d data hr (Or.inl rfl) (may_in _ rfl rfl a 3405803781 ha0 ha1 (by decide)) 16 _
    ((congrArg WYD.what (if_pos rfl)).trans e1) (by decide) ((if_pos rfl).trans e2)
end Go.Proofs.YtfkjobiapjhacaaGreat
