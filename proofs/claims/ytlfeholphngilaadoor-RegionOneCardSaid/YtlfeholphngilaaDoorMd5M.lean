/- 10.1, 10.2: marks of texts, plainly: nothing of the program. -/
import Derived.Test.YtlfeholphngilaaDoorHexT
namespace Go.Proofs.YtlfeholphngilaaDoor
set_option linter.unusedVariables false

/-- Four numbers of 32 bits. -/
structure Q4 where
  a : Nat
  b : Nat
  c : Nat
  d : Nat
def md0 : Q4 := ⟨1732584193, 4023233417, 2562383102, 271733878⟩
def sinL : List Nat := [3614090360, 3905402710, 606105819, 3250441966, 4118548399, 1200080426, 2821735955, 4249261313, 1770035416, 2336552879, 4294925233, 2304563134, 1804603682, 4254626195, 2792965006, 1236535329, 4129170786, 3225465664, 643717713, 3921069994, 3593408605, 38016083, 3634488961, 3889429448, 568446438, 3275163606, 4107603335, 1163531501, 2850285829, 4243563512, 1735328473, 2368359562, 4294588738, 2272392833, 1839030562, 4259657740, 2763975236, 1272893353, 4139469664, 3200236656, 681279174, 3936430074, 3572445317, 76029189, 3654602809, 3873151461, 530742520, 3299628645, 4096336452, 1126891415, 2878612391, 4237533241, 1700485571, 2399980690, 4293915773, 2240044497, 1873313359, 4264355552, 2734768916, 1309151649, 4149444226, 3174756917, 718787259, 3951481745]
def turnL : List Nat := [7, 12, 17, 22, 5, 9, 14, 20, 4, 11, 16, 23, 6, 10, 15, 21]
def sinN (i : Nat) : Nat := sinL.getD i 0
def turnN (i : Nat) : Nat := turnL.getD (i / 16 * 4 + i % 4) 0
/-- Turned left. -/
def rotN (x k : Nat) : Nat := (x * 2 ^ k) % 4294967296 ||| x / 2 ^ (32 - k)
/-- The function of a step, and which word it takes. -/
def fN (i b c d : Nat) : Nat := if i < 16 then d ^^^ (b &&& (c ^^^ d)) else if i < 32 then c ^^^ (d &&& (b ^^^ c)) else if i < 48 then b ^^^ c ^^^ d else c ^^^ (b ||| (4294967295 ^^^ d))
def gN (i : Nat) : Nat := if i < 16 then i else if i < 32 then (5 * i + 1) % 16 else if i < 48 then (3 * i + 5) % 16 else 7 * i % 16
/-- The word at a byte. -/
def wordN (l : List UInt8) (o : Nat) : Nat := (l.getD o 0).toNat + (l.getD (o + 1) 0).toNat * 256 + (l.getD (o + 2) 0).toNat * 65536 + (l.getD (o + 3) 0).toNat * 16777216
/-- A step. -/
def xN (l : List UInt8) (o i : Nat) (h : Q4) : Nat := (h.a + fN i h.b h.c h.d + wordN l (o + 4 * gN i) + sinN i) % 4294967296
def stepN (l : List UInt8) (o i : Nat) (h : Q4) : Q4 := ⟨h.d, (h.b + rotN (xN l o i h) (turnN i)) % 4294967296, h.b, h.c⟩
/-- k steps of the block at byte o. -/
def stepsN (l : List UInt8) (o : Nat) (h : Q4) : Nat → Q4
  | 0 => h
  | k + 1 => stepN l o k (stepsN l o h k)
def addN (h x : Q4) : Q4 := ⟨(h.a + x.a) % 4294967296, (h.b + x.b) % 4294967296, (h.c + x.c) % 4294967296, (h.d + x.d) % 4294967296⟩
def blockN (l : List UInt8) (o : Nat) (h : Q4) : Q4 := addN h (stepsN l o h 64)
/-- Behind k blocks. -/
def blocksN (l : List UInt8) : Nat → Q4
  | 0 => md0
  | k + 1 => blockN l (64 * k) (blocksN l k)
/-- n bytes of a number, the least first. -/
def leN (x : Nat) : Nat → List UInt8
  | 0 => []
  | n + 1 => UInt8.ofNat (x % 256) :: leN (x / 256) n
theorem leN_len : ∀ (n x : Nat), (leN x n).length = n
  | 0, _ => rfl
  | n + 1, x => by simp [leN, leN_len n]
/-- How many noughts stand behind the 128. -/
def padN (n : Nat) : Nat := (119 - n % 64) % 64
def padL (l : List UInt8) : List UInt8 := l ++ (128 :: (List.replicate (padN l.length) 0 ++ leN (l.length * 8) 8))
def outN (h : Q4) : List UInt8 := leN h.a 4 ++ (leN h.b 4 ++ (leN h.c 4 ++ leN h.d 4))
/-- The mark. -/
def md5L (l : List UInt8) : List UInt8 := outN (blocksN (padL l) ((padL l).length / 64))
theorem md5L_len (l : List UInt8) : (md5L l).length = 16 := by simp [md5L, outN, leN_len]
theorem padL_len (l : List UInt8) : (padL l).length % 64 = 0 ∧ (padL l).length = l.length + 9 + padN l.length := by
  unfold padL padN
  simp only [List.length_append, List.length_cons, List.length_replicate, leN_len]
  omega
/-- The mark by a key. -/
def keyL (k : List UInt8) : List UInt8 := let k' := if 64 < k.length then md5L k else k; k' ++ List.replicate (64 - k'.length) 0
def xorL (k : List UInt8) (x : UInt8) : List UInt8 := k.map fun b => b ^^^ x
def hmacL (k l : List UInt8) : List UInt8 := md5L (xorL (keyL k) 92 ++ md5L (xorL (keyL k) 54 ++ l))

theorem md5_abc : md5L [97, 98, 99] = [0x90, 0x01, 0x50, 0x98, 0x3c, 0xd2, 0x4f, 0xb0, 0xd6, 0x96, 0x3f, 0x7d, 0x28, 0xe1, 0x7f, 0x72] := by decide +kernel
theorem hmac_jefe : hmacL [74, 101, 102, 101] [119, 104, 97, 116, 32, 100, 111, 32, 121, 97, 32, 119, 97, 110, 116, 32, 102, 111, 114, 32, 110, 111, 116, 104, 105, 110, 103, 63] = [0x75, 0x0c, 0x78, 0x3e, 0x6a, 0xb0, 0xb5, 0x03, 0xea, 0xa8, 0x6e, 0x31, 0x0a, 0x5d, 0xb7, 0x38] := by decide +kernel
def mstKey : List UInt8 := [0x13, 0xac, 0x06, 0xa6, 0x2e, 0x47, 0xfd, 0x51, 0xf9, 0x5d, 0x2b, 0xa2, 0x43, 0xcd, 0x03, 0x46]

end Go.Proofs.YtlfeholphngilaaDoor
