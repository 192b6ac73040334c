package md5_test

import (
	"crypto/hmac"
	stdmd5 "crypto/md5"
	"encoding/hex"
	"strings"
	"testing"

	"switchyard/md5"
)

// wantSum and wantHmac are what Go's library has.
func wantSum(s string) string {
	sum := stdmd5.Sum([]byte(s))
	return string(sum[:])
}

func wantHmac(key, s string) string {
	h := hmac.New(stdmd5.New, []byte(key))
	h.Write([]byte(s))
	return string(h.Sum(nil))
}

// checkSum compares a Sum; of a long text only the beginning is told.
func checkSum(t *testing.T, s, want string) {
	t.Helper()
	if got := md5.Sum(s); got != want {
		t.Errorf("Sum of %d bytes %.40q = %x, want %x", len(s), s, got, want)
	}
}

// checkHmac compares an Hmac.
func checkHmac(t *testing.T, key, s, want string) {
	t.Helper()
	if got := md5.Hmac(key, s); got != want {
		t.Errorf("Hmac by %d bytes %.40q of %d bytes %.40q = %x, want %x", len(key), key, len(s), s, got, want)
	}
}

// bytesOf are those that digits tell.
func bytesOf(digits string) string {
	b, err := hex.DecodeString(digits)
	if err != nil {
		panic(digits)
	}
	return string(b)
}

// mixed are so many bytes, which differ from each other where they are near.
func mixed(n int) string {
	b := make([]byte, n)
	for i := range b {
		b[i] = byte(167*i + i/256 + 13)
	}
	return string(b)
}

// 10.1: the example, which is the first one, and the others of RFC 1321.
func TestSum(t *testing.T) {
	for _, c := range []struct{ s, digits string }{
		{"", "d41d8cd98f00b204e9800998ecf8427e"},
		{"a", "0cc175b9c0f1b6a831c399e269772661"},
		{"abc", "900150983cd24fb0d6963f7d28e17f72"},
		{"message digest", "f96b697d7cb7938d525a2f31aaf161d0"},
		{"abcdefghijklmnopqrstuvwxyz", "c3fcd3d76192e4007dfb496cca67e13b"},
		{"ABCDEFGHIJKLMNOPQRSTUVWXYZabcdefghijklmnopqrstuvwxyz0123456789", "d174ab98d277d9f5a5611c2c9f419d9f"},
		{"12345678901234567890123456789012345678901234567890123456789012345678901234567890", "57edf4a22be3c955ac49da2e2107b67a"},
	} {
		checkSum(t, c.s, bytesOf(c.digits))
	}
}

// 10.1: every length around the ends of blocks, where the padding has no zeros, or all, or a block of its own.
func TestSumOfEveryLength(t *testing.T) {
	for n := range 400 {
		for _, s := range []string{mixed(n), strings.Repeat("\x00", n), strings.Repeat("\xff", n), strings.Repeat("\x80", n)} {
			checkSum(t, s, wantSum(s))
		}
	}
}

// 10.1: every byte, everywhere in a block.
func TestSumOfEveryByte(t *testing.T) {
	for i := range 70 {
		for c := range 256 {
			b := []byte(mixed(70))
			b[i] = byte(c)
			checkSum(t, string(b), wantSum(string(b)))
		}
	}
}

// 10.1: the number of bits has eight bytes, the least one first; the last of these texts needs five of them.
func TestSumOfLong(t *testing.T) {
	for _, n := range []int{31, 32, 1<<13 - 1, 1 << 13, 1<<13 + 57, 1<<21 - 1, 1 << 21, 1<<21 + 57} {
		s := mixed(n)
		checkSum(t, s, wantSum(s))
	}
	checkSum(t, strings.Repeat("\x00", 1<<29), bytesOf("aa559b4e3523a6c931f08f4df52d58f2"))
}

// 10.2: the samples of RFC 2202; the sixth one's key is longer than a block.
func TestHmac(t *testing.T) {
	counting := bytesOf("0102030405060708090a0b0c0d0e0f10111213141516171819")
	long := strings.Repeat("\xaa", 80)
	for _, c := range []struct{ key, s, digits string }{
		{strings.Repeat("\x0b", 16), "Hi There", "9294727a3638bb1c13f48ef8158bfc9d"},
		{"Jefe", "what do ya want for nothing?", "750c783e6ab0b503eaa86e310a5db738"},
		{strings.Repeat("\xaa", 16), strings.Repeat("\xdd", 50), "56be34521d144c88dbb8c733f0e8b3f6"},
		{counting, strings.Repeat("\xcd", 50), "697eaf0aca3a3aea3a75164746ffaa79"},
		{strings.Repeat("\x0c", 16), "Test With Truncation", "56461ef2342edc00f9bab995690efd4c"},
		{long, "Test Using Larger Than Block-Size Key - Hash Key First", "6b1ab7fe4bd7bf8f0b62e6ce61b9d0cd"},
		{long, "Test Using Larger Than Block-Size Key and Larger Than One Block-Size Data", "6f630fad67cda0ee1fb1f562db3aa53e"},
		{"", "", "74e6f7298a9c2d168935f58c001bad88"},
	} {
		checkHmac(t, c.key, c.s, bytesOf(c.digits))
	}
}

// 10.2: keys and texts of every length around the ends of blocks.
func TestHmacOfEveryLength(t *testing.T) {
	for n := range 200 {
		for _, m := range []int{0, 1, 16, 55, 56, 63, 64, 65, 119, 120, 200} {
			key, s := mixed(n), strings.Repeat("\xe5", m)
			checkHmac(t, key, s, wantHmac(key, s))
			checkHmac(t, s, key, wantHmac(s, key))
		}
	}
}

// 10.2: a key of more than 64 bytes is its Sum, one of 64 is not; zeros behind a key do not count up to there.
func TestHmacKeys(t *testing.T) {
	for n := range 130 {
		key := mixed(n)
		short := md5.Hmac(md5.Sum(key), "text")
		if same := md5.Hmac(key, "text") == short; same != (n > 64) {
			t.Errorf("Hmac by %d bytes is the one by their Sum: %v", n, same)
		}
		for zeros := range 130 - n {
			same := md5.Hmac(key+strings.Repeat("\x00", zeros), "text") == md5.Hmac(key, "text")
			if want := zeros == 0 || n+zeros <= 64; same != want {
				t.Errorf("Hmac by %d bytes and %d zeros is the one without them: %v", n, zeros, same)
			}
		}
	}
}

// P4: a result depends on the arguments alone.
func TestAgain(t *testing.T) {
	for range 3 {
		checkSum(t, "abc", bytesOf("900150983cd24fb0d6963f7d28e17f72"))
		checkHmac(t, "Jefe", "what do ya want for nothing?", bytesOf("750c783e6ab0b503eaa86e310a5db738"))
	}
}
