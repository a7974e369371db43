/- What a text and a key's blocks come to: plain facts; and one block, reckoned. -/
import Derived.Test.YtkkfmpplfcdgmaaC7
import Derived.Test.YtkkfmpplfcdgmaaH
import Derived.Laws.BitsAllLaws
namespace Go.Proofs.Ytkkfmpplfcdgmaa
set_option linter.unusedSimpArgs false
set_option linter.unusedVariables false

theorem byteOf_nat (f : Nat → BitVec 32) (i : Nat) : ∃ y : Nat, y < 256 ∧ byteOf f i = (y : Int) := ⟨_, Nat.mod_lt _ (by decide), rfl⟩
/-- the byte that byte i of a text is taken together with -/
def kb (key nonce : ByteArray) (i : Nat) : Nat := (byteOf (mixd (laidF key nonce (BitVec.ofNat 32 (1 + i / 64)))) (i % 64)).toNat
theorem kb_lt (key nonce : ByteArray) (i : Nat) : kb key nonce i < 256 := by
  unfold kb
  obtain ⟨y, h1, h2⟩ := byteOf_nat (mixd (laidF key nonce (BitVec.ofNat 32 (1 + i / 64)))) (i % 64)
  rw [h2]; simpa using h1
theorem xorAt_eq (key nonce s : ByteArray) (i : Nat) : xorAt key nonce s i = (((byteAt s i).toNat ^^^ kb key nonce i : Nat) : Int) := by
  have h3 := kb_lt key nonce i
  unfold kb at h3 ⊢
  unfold xorAt xorb
  obtain ⟨y, h1, h2⟩ := byteOf_nat (mixd (laidF key nonce (BitVec.ofNat 32 (1 + i / 64)))) (i % 64)
  rw [h2, u8_xor_nat _ _ (byteAt s i).toNat_lt h1]
  simp
theorem xor_size (key nonce s : ByteArray) : (strOfNums (xorOf key nonce s)).size = s.size := by rw [strOfNums_size]; simp [xorOf]
theorem xor_byte (key nonce s : ByteArray) (i : Nat) (hi : i < s.size) : (byteAt (strOfNums (xorOf key nonce s)) i).toNat = (byteAt s i).toNat ^^^ kb key nonce i := by
  have h : byteAt (strOfNums (xorOf key nonce s)) i = UInt8.ofNat ((byteAt s i).toNat ^^^ kb key nonce i) := by
    show (strOfNums (xorOf key nonce s)).data.toList.getD i 0 = _
    rw [strOfNums_data, List.getD_eq_getElem?_getD]
    simp [xorOf, hi, xorAt_eq]
  rw [h, UInt8.toNat_ofNat']
  exact Nat.mod_eq_of_lt (Nat.xor_lt_two_pow (n := 8) (byteAt s i).toNat_lt (kb_lt key nonce i))
theorem getElem_byteAt (s : ByteArray) (i : Nat) (hi : i < s.size) : s[i] = byteAt s i := by
  unfold byteAt
  rw [List.getD_eq_getElem?_getD, List.getElem?_eq_getElem (by simpa using hi)]
  rfl
theorem bytes_ext {a b : ByteArray} (hs : a.size = b.size) (h : ∀ i, i < a.size → (byteAt a i).toNat = (byteAt b i).toNat) : a = b := by
  apply ByteArray.ext
  apply Array.ext
  · exact hs
  · intro i h1 h2
    have h1' : i < a.size := h1
    have h2' : i < b.size := h2
    have e := UInt8.toNat_inj.1 (h i h1')
    rw [← getElem_byteAt a i h1', ← getElem_byteAt b i h2'] at e
    exact e
theorem xor_twice (key nonce s : ByteArray) : strOfNums (xorOf key nonce (strOfNums (xorOf key nonce s))) = s := by
  have e1 := xor_size key nonce s
  have e2 := xor_size key nonce (strOfNums (xorOf key nonce s))
  refine bytes_ext (by omega) (fun i hi => ?_)
  rw [xor_byte key nonce _ i (by omega), xor_byte key nonce s i (by omega), Nat.xor_assoc, Nat.xor_self, Nat.xor_zero]
theorem cut_byte (s : ByteArray) (c i : Nat) (hc : c ≤ s.size) (hi : i < c) : byteAt (s.extract 0 c) i = byteAt s i := by
  have h := ext_byte s 0 c i (by simp [ByteArray.size_extract]; omega) hc
  rw [getElem_byteAt, Nat.zero_add] at h
  exact h
theorem xor_cut (key nonce s : ByteArray) (c : Nat) (hc : c ≤ s.size) : strOfNums (xorOf key nonce (s.extract 0 c)) = (strOfNums (xorOf key nonce s)).extract 0 c := by
  have e1 := xor_size key nonce s
  have e2 := xor_size key nonce (s.extract 0 c)
  have e3 : (s.extract 0 c).size = c := by simp [ByteArray.size_extract]; omega
  have e4 : ((strOfNums (xorOf key nonce s)).extract 0 c).size = c := by simp [ByteArray.size_extract]; omega
  refine bytes_ext (by omega) (fun i hi => ?_)
  rw [xor_byte key nonce _ i (by omega), cut_byte s c i hc (by omega), cut_byte _ c i (by omega) (by omega), xor_byte key nonce s i (by omega)]
theorem xor_apart (key nonce s t : ByteArray) (i : Nat) (h1 : i < s.size) (h2 : i < t.size) (h3 : i < (strOfNums (xorOf key nonce s)).size) (h4 : i < (strOfNums (xorOf key nonce t)).size) :
    bits .xor .u8 ((strOfNums (xorOf key nonce s))[i].toNat : Int) ((strOfNums (xorOf key nonce t))[i].toNat : Int) = bits .xor .u8 (s[i].toNat : Int) (t[i].toNat : Int) := by
  rw [u8_xor_nat _ _ (UInt8.toNat_lt _) (UInt8.toNat_lt _), u8_xor_nat _ _ (UInt8.toNat_lt _) (UInt8.toNat_lt _), getElem_byteAt _ _ h3, getElem_byteAt _ _ h4, getElem_byteAt _ _ h1, getElem_byteAt _ _ h2, xor_byte key nonce s i h1, xor_byte key nonce t i h2]
  congr 1
  rw [Nat.xor_comm (byteAt t i).toNat, Nat.xor_assoc, ← Nat.xor_assoc (kb key nonce i) (kb key nonce i), Nat.xor_self, Nat.zero_xor]

/-! one block, reckoned round by round -/
def ofL (l : List (BitVec 32)) : Nat → BitVec 32 := fun j => l.getD j 0
theorem four_congr {f g : Nat → BitVec 32} (h : ∀ j, j < 16 → f j = g j) (sh i : Nat) (hi : i < 4) : four f sh i = four g sh i := by
  unfold four
  rw [h i (by omega), h (4 + (i + sh) % 4) (by omega), h (8 + (i + 2 * sh) % 4) (by omega), h (12 + (i + 3 * sh) % 4) (by omega)]
theorem rnd_congr {f g : Nat → BitVec 32} (h : ∀ j, j < 16 → f j = g j) (sh j : Nat) : rnd sh f j = rnd sh g j := by
  unfold rnd
  rw [four_congr h sh _ (Nat.mod_lt _ (by decide))]
/-- f is the list l -/
def Is (f : Nat → BitVec 32) (l : List (BitVec 32)) : Prop := ∀ j, j < 16 → f j = ofL l j
theorem Is.rnd {f : Nat → BitVec 32} {l m : List (BitVec 32)} (h : Is f l) (sh : Nat) (e : (List.range 16).map (Go.Proofs.Ytkkfmpplfcdgmaa.rnd sh (ofL l)) = m) : Is (Go.Proofs.Ytkkfmpplfcdgmaa.rnd sh f) m := fun j hj => by
  rw [rnd_congr h, ← e]
  unfold ofL
  rw [List.getD_eq_getElem?_getD, List.getElem?_map, List.getElem?_range hj]
  rfl
def key0 : ByteArray := strOfNums [0, 1, 2, 3, 4, 5, 6, 7, 8, 9, 10, 11, 12, 13, 14, 15, 16, 17, 18, 19, 20, 21, 22, 23, 24, 25, 26, 27, 28, 29, 30, 31]
def nonce0 : ByteArray := ⟨#[0, 0, 0, 9, 0, 0, 0, 74, 0, 0, 0, 0]⟩
def l0 : List (BitVec 32) := [1634760805#32, 857760878#32, 2036477234#32, 1797285236#32, 50462976#32, 117835012#32, 185207048#32, 252579084#32, 319951120#32, 387323156#32, 454695192#32, 522067228#32, 1#32, 150994944#32, 1241513984#32, 0#32]
def l1 : List (BitVec 32) := [2881135196#32, 519721450#32, 1934949343#32, 2211634281#32, 977686934#32, 478045430#32, 2972694056#32, 4032522614#32, 1799136340#32, 149623985#32, 3213531849#32, 3829718843#32, 3737530066#32, 2288176247#32, 1849013061#32, 1386629105#32]
def l2 : List (BitVec 32) := [3444762903#32, 2242577332#32, 3007673237#32, 4184729565#32, 3300379938#32, 1546524794#32, 3378426977#32, 829194266#32, 2079840064#32, 2128467524#32, 4053908981#32, 1980909258#32, 1796036771#32, 1738032922#32, 3610767719#32, 4050880653#32]
def l3 : List (BitVec 32) := [3823178011#32, 2787710097#32, 1518516236#32, 1157692741#32, 3596311387#32, 4117426329#32, 1288470787#32, 3377277410#32, 3866815572#32, 4154797442#32, 3678865684#32, 3753119517#32, 2078809101#32, 496161021#32, 320053132#32, 2049371306#32]
def l4 : List (BitVec 32) := [3474617732#32, 76097516#32, 1409621978#32, 3259301672#32, 2417831744#32, 2037692444#32, 932040628#32, 3444047118#32, 766489110#32, 667458774#32, 3443301024#32, 2046593479#32, 279900557#32, 371296101#32, 1761044229#32, 81194530#32]
def l5 : List (BitVec 32) := [2720437746#32, 2835926892#32, 3870164402#32, 4262457419#32, 516834392#32, 3895161455#32, 1512156048#32, 2271841380#32, 4073942438#32, 4107975040#32, 2075088243#32, 2810980109#32, 1876585463#32, 1705291982#32, 635885422#32, 461050348#32]
def l6 : List (BitVec 32) := [60899378#32, 1722898727#32, 2641062722#32, 3092005129#32, 2803120864#32, 2694525917#32, 2782572424#32, 802757235#32, 3373034264#32, 1512055827#32, 3255697846#32, 1926065012#32, 3124090743#32, 3009475007#32, 2172137819#32, 751901466#32]
def l7 : List (BitVec 32) := [4274849848#32, 369800296#32, 2584600398#32, 3133609290#32, 3470747172#32, 2971526852#32, 3178762479#32, 3526055491#32, 495596522#32, 2279349417#32, 2310878373#32, 1426452322#32, 2820192338#32, 2969584746#32, 2619175089#32, 2714877690#32]
def l8 : List (BitVec 32) := [2586654089#32, 186907726#32, 1085225835#32, 3471475012#32, 169607110#32, 1582928887#32, 2567226087#32, 221464344#32, 3832308564#32, 3377476137#32, 83817898#32, 4170399602#32, 646435958#32, 1424380465#32, 898957253#32, 725332682#32]
def l9 : List (BitVec 32) := [2246541898#32, 1228983710#32, 4226246731#32, 1932906557#32, 471023265#32, 3148090127#32, 2484312362#32, 2762678336#32, 2745592454#32, 3233051983#32, 1998278347#32, 374428065#32, 3724575844#32, 888145291#32, 1887726842#32, 2737249033#32]
def l10 : List (BitVec 32) := [3308460229#32, 3392298390#32, 2122125771#32, 872735434#32, 651677555#32, 1619579769#32, 3237013949#32, 3809529273#32, 2922162395#32, 1123449970#32, 1902549706#32, 2539394845#32, 2657010216#32, 2105911795#32, 538773334#32, 1677355347#32]
def l11 : List (BitVec 32) := [2572204070#32, 3402091718#32, 2225501811#32, 3677424038#32, 555812442#32, 3240876763#32, 3403918545#32, 1497765579#32, 419925474#32, 395234306#32, 3870145970#32, 1386861838#32, 1087009459#32, 1000077394#32, 2020148088#32, 3783084290#32]
def l12 : List (BitVec 32) := [77796122#32, 1712808713#32, 68532913#32, 1639481506#32, 919373511#32, 3213509733#32, 4152219424#32, 4228635792#32, 131152586#32, 3943426479#32, 1633260689#32, 2441417436#32, 867592301#32, 2036123249#32, 3221526898#32, 2695371742#32]
def l13 : List (BitVec 32) := [1472587482#32, 902710952#32, 201595833#32, 4203863929#32, 2391136303#32, 3028393222#32, 3057377792#32, 2899452388#32, 1129006921#32, 491101184#32, 287112748#32, 1435772420#32, 1240335270#32, 3508163924#32, 2803904004#32, 2099385788#32]
def l14 : List (BitVec 32) := [2607871263#32, 2124983313#32, 568675753#32, 3392748335#32, 2477819526#32, 1783386286#32, 421603930#32, 2600675672#32, 3627619934#32, 1275519626#32, 3556632990#32, 648855869#32, 2785670485#32, 740582729#32, 2501187667#32, 746879501#32]
def l15 : List (BitVec 32) := [3232860910#32, 141837754#32, 920988377#32, 2809610858#32, 3736424092#32, 2150402107#32, 115894409#32, 1006642816#32, 2821547476#32, 1753158123#32, 3922944519#32, 1111678382#32, 1090766414#32, 2189519505#32, 3045378646#32, 4245410489#32]
def l16 : List (BitVec 32) := [3395061213#32, 2477062414#32, 3656441688#32, 652051165#32, 2552587256#32, 1898621439#32, 664429032#32, 2534372029#32, 472224538#32, 1367390992#32, 2006722535#32, 1409777160#32, 2847363579#32, 942619874#32, 2377217405#32, 3426224139#32]
def l17 : List (BitVec 32) := [1985769116#32, 1521523473#32, 1055382020#32, 935531011#32, 2420567210#32, 2072565890#32, 3115677661#32, 359524333#32, 1190791454#32, 1360521653#32, 2251289131#32, 2751252390#32, 1923459790#32, 1604841925#32, 3663085066#32, 1382275018#32]
def l18 : List (BitVec 32) := [3065544166#32, 2583781704#32, 2475005973#32, 1226172108#32, 3694379298#32, 2564919203#32, 1610344700#32, 4145367947#32, 683801779#32, 3300102045#32, 2212689367#32, 2099558795#32, 554142498#32, 2979260323#32, 3002373001#32, 1826512934#32]
def l19 : List (BitVec 32) := [2315779861#32, 212714780#32, 24939945#32, 1258022367#32, 2436327678#32, 1143606284#32, 1502602171#32, 1204914216#32, 171552476#32, 3242360873#32, 2068321119#32, 1516179608#32, 760020542#32, 3846597915#32, 3838630931#32, 2328439320#32]
def l20 : List (BitVec 32) := [2205644971#32, 3795375971#32, 2793071134#32, 1498463023#32, 3304247495#32, 4234328879#32, 2409634044#32, 1063176119#32, 861041090#32, 4069820915#32, 3938298108#32, 2196008637#32, 3516666548#32, 2957907678#32, 2659438795#32, 1312575650#32]
theorem is0 : Is (laidF key0 nonce0 1#32) l0 := by
  intro j hj
  have e : (List.range 16).map (laidF key0 nonce0 1#32) = l0 := by kernel_rfl
  unfold ofL
  rw [← e, List.getD_eq_getElem?_getD, List.getElem?_map, List.getElem?_range hj]
  rfl
theorem is1 : Is (rnd 0 (rnds (laidF key0 nonce0 1#32) 0)) l1 := is0.rnd 0 (by kernel_rfl)
theorem is2 : Is (rnds (laidF key0 nonce0 1#32) 1) l2 := is1.rnd 1 (by kernel_rfl)
theorem is3 : Is (rnd 0 (rnds (laidF key0 nonce0 1#32) 1)) l3 := is2.rnd 0 (by kernel_rfl)
theorem is4 : Is (rnds (laidF key0 nonce0 1#32) 2) l4 := is3.rnd 1 (by kernel_rfl)
theorem is5 : Is (rnd 0 (rnds (laidF key0 nonce0 1#32) 2)) l5 := is4.rnd 0 (by kernel_rfl)
theorem is6 : Is (rnds (laidF key0 nonce0 1#32) 3) l6 := is5.rnd 1 (by kernel_rfl)
theorem is7 : Is (rnd 0 (rnds (laidF key0 nonce0 1#32) 3)) l7 := is6.rnd 0 (by kernel_rfl)
theorem is8 : Is (rnds (laidF key0 nonce0 1#32) 4) l8 := is7.rnd 1 (by kernel_rfl)
theorem is9 : Is (rnd 0 (rnds (laidF key0 nonce0 1#32) 4)) l9 := is8.rnd 0 (by kernel_rfl)
theorem is10 : Is (rnds (laidF key0 nonce0 1#32) 5) l10 := is9.rnd 1 (by kernel_rfl)
theorem is11 : Is (rnd 0 (rnds (laidF key0 nonce0 1#32) 5)) l11 := is10.rnd 0 (by kernel_rfl)
theorem is12 : Is (rnds (laidF key0 nonce0 1#32) 6) l12 := is11.rnd 1 (by kernel_rfl)
theorem is13 : Is (rnd 0 (rnds (laidF key0 nonce0 1#32) 6)) l13 := is12.rnd 0 (by kernel_rfl)
theorem is14 : Is (rnds (laidF key0 nonce0 1#32) 7) l14 := is13.rnd 1 (by kernel_rfl)
theorem is15 : Is (rnd 0 (rnds (laidF key0 nonce0 1#32) 7)) l15 := is14.rnd 0 (by kernel_rfl)
theorem is16 : Is (rnds (laidF key0 nonce0 1#32) 8) l16 := is15.rnd 1 (by kernel_rfl)
theorem is17 : Is (rnd 0 (rnds (laidF key0 nonce0 1#32) 8)) l17 := is16.rnd 0 (by kernel_rfl)
theorem is18 : Is (rnds (laidF key0 nonce0 1#32) 9) l18 := is17.rnd 1 (by kernel_rfl)
theorem is19 : Is (rnd 0 (rnds (laidF key0 nonce0 1#32) 9)) l19 := is18.rnd 0 (by kernel_rfl)
theorem is20 : Is (rnds (laidF key0 nonce0 1#32) 10) l20 := is19.rnd 1 (by kernel_rfl)
def out0 : List (BitVec 32) := [3840405776#32, 358169553#32, 534581072#32, 3295748259#32, 3354710471#32, 57196595#32, 2594841092#32, 1315755203#32, 1180992210#32, 162176775#32, 98026004#32, 2718075865#32, 3516666549#32, 3108902622#32, 3900952779#32, 1312575650#32]
theorem mixd0 : Is (mixd (laidF key0 nonce0 1#32)) out0 := fun j hj => by
  have e : (List.range 16).map (fun j => ofL l20 j + ofL l0 j) = out0 := by kernel_rfl
  unfold mixd
  rw [is20 j hj, is0 j hj, ← e]
  show _ = ((List.range 16).map _).getD j 0
  rw [List.getD_eq_getElem?_getD, List.getElem?_map, List.getElem?_range hj]
  rfl
theorem block0 : blockOf key0 (BitVec.ofInt 32 1) nonce0 = [16, 241, 231, 228, 209, 59, 89, 21, 80, 15, 221, 31, 163, 32, 113, 196, 199, 209, 244, 199, 51, 192, 104, 3, 4, 34, 170, 154, 195, 212, 108, 78, 210, 130, 100, 70, 7, 159, 170, 9, 20, 194, 215, 5, 217, 139, 2, 162, 181, 18, 156, 209, 222, 22, 78, 185, 203, 208, 131, 232, 162, 80, 60, 78] := by
  have e1 : BitVec.ofInt 32 1 = 1#32 := by decide
  have e : bytesOf (ofL out0) = [16, 241, 231, 228, 209, 59, 89, 21, 80, 15, 221, 31, 163, 32, 113, 196, 199, 209, 244, 199, 51, 192, 104, 3, 4, 34, 170, 154, 195, 212, 108, 78, 210, 130, 100, 70, 7, 159, 170, 9, 20, 194, 215, 5, 217, 139, 2, 162, 181, 18, 156, 209, 222, 22, 78, 185, 203, 208, 131, 232, 162, 80, 60, 78] := by kernel_rfl
  unfold blockOf
  rw [e1, ← e]
  unfold bytesOf
  refine List.map_congr_left (fun i hi => ?_)
  have hi' : i < 64 := List.mem_range.1 hi
  unfold byteOf
  rw [mixd0 (i / 4) (by omega)]
end Go.Proofs.Ytkkfmpplfcdgmaa
