package tests

import (
	"bytes"
	"math"
	"math/big"
	"slices"
	"testing"

	"loop.example/g03010/impl"
)

const cryptoModulus = 2147483647

// slowHash is Hash, counted with numbers of any size.
func slowHash(values []int) int {
	modulus := big.NewInt(cryptoModulus)
	sum := big.NewInt(11)
	for _, v := range values {
		sum.Mul(sum, big.NewInt(1000003))
		sum.Add(sum, new(big.Int).Mod(big.NewInt(int64(v)), modulus))
		sum.Add(sum, big.NewInt(13))
		sum.Mod(sum, modulus)
	}
	return int(sum.Int64())
}

var hashedValues = [][]int{
	nil,
	{},
	{0},
	{5},
	{-1},
	{-5},
	{0, 0},
	{1, 2},
	{2, 1},
	{1, 2, 3, 4, 5, 6, 7, 8, 9, 10},
	{cryptoModulus - 1},
	{cryptoModulus},
	{cryptoModulus + 1},
	{-cryptoModulus},
	{-cryptoModulus - 1},
	{-cryptoModulus + 1, 3},
	{math.MaxInt},
	{math.MinInt},
	{math.MinInt, math.MaxInt, -1, 0},
	{mostValue, -mostValue},
}

func TestHash(t *testing.T) {
	if impl.Modulus != cryptoModulus {
		t.Errorf("Modulus is %d", impl.Modulus)
	}
	for _, values := range hashedValues {
		if got, want := impl.Hash(values), slowHash(values); got != want {
			t.Errorf("Hash(%v) is %d, not %d", values, got, want)
		}
	}
	for _, c := range []struct {
		values []int
		want   int
	}{
		{nil, 11},
		{[]int{5}, 11000051},
		{[]int{0}, 11000046},
		{[]int{-1}, 11000045},
		{[]int{-cryptoModulus}, 11000046},
	} {
		if got := impl.Hash(c.values); got != c.want {
			t.Errorf("Hash(%v) is %d, not %d", c.values, got, c.want)
		}
	}
}

func TestHashStaysInRange(t *testing.T) {
	random := numbers{3}
	for range 2000 {
		values := []int{}
		for range random.below(30) {
			values = append(values, random.below(math.MaxInt)-random.below(math.MaxInt))
		}
		got := impl.Hash(values)
		if got != slowHash(values) || got < 0 || got >= cryptoModulus {
			t.Fatalf("Hash(%v) is %d", values, got)
		}
	}
}

func TestKeyedHash(t *testing.T) {
	for _, key := range []int{0, 1, 7, -1, cryptoModulus - 1, cryptoModulus, math.MinInt, math.MaxInt} {
		for _, values := range hashedValues {
			want := slowHash(slices.Concat([]int{key}, values, []int{key}))
			if got := impl.KeyedHash(key, values); got != want {
				t.Errorf("KeyedHash(%d, %v) is %d, not %d", key, values, got, want)
			}
		}
	}
}

// Promise 3: a keyed hash becomes another one if the key or any one of the values does.
func TestKeyedHashDependsOnEachValue(t *testing.T) {
	values := []int{4, 0, 300, -9, 17, 1, 1}
	const key = 77
	hash := impl.KeyedHash(key, values)
	for _, by := range []int{1, -1, 2, 1000, cryptoModulus - 1, cryptoModulus + 1} {
		for i := range values {
			other := slices.Clone(values)
			other[i] += by
			if impl.KeyedHash(key, other) == hash {
				t.Errorf("the value at %d does not count", i)
			}
		}
		if impl.KeyedHash(key+by, values) == hash {
			t.Errorf("the key does not count")
		}
	}
	for i := range values {
		if impl.KeyedHash(key, slices.Delete(slices.Clone(values), i, i+1)) == hash {
			t.Errorf("the value at %d can be left out", i)
		}
	}
	if impl.KeyedHash(key, append(slices.Clone(values), 0)) == hash || impl.KeyedHash(key, slices.Insert(slices.Clone(values), 0, 0)) == hash {
		t.Errorf("a value more does not count")
	}
}

func TestIsValidKey(t *testing.T) {
	for key, want := range map[int]bool{
		math.MinInt: false, -1: false, 0: false, 1: true, 2: true, 1000: true,
		cryptoModulus - 2: true, cryptoModulus - 1: true, cryptoModulus: false, cryptoModulus + 1: false, math.MaxInt: false,
	} {
		if got := impl.IsValidKey(key); got != want {
			t.Errorf("IsValidKey(%d) is %t", key, got)
		}
	}
}

func TestBytesToInts(t *testing.T) {
	for _, c := range []struct {
		b    []byte
		want []int
	}{
		{nil, []int{0}},
		{[]byte{}, []int{0}},
		{[]byte{9}, []int{1, 9}},
		{[]byte{9, 8}, []int{2, 9, 8}},
		{[]byte{0, 255, 128, 127}, []int{4, 0, 255, 128, 127}},
	} {
		if got := impl.BytesToInts(c.b); !slices.Equal(got, c.want) {
			t.Errorf("BytesToInts(%v) is %v", c.b, got)
		}
	}
}

var cryptoKeys = []int{1, 2, 77, 78, cryptoModulus - 1, 0, -1, cryptoModulus, math.MinInt, math.MaxInt}

var everyByte = func() []byte {
	b := make([]byte, 256)
	for i := range b {
		b[i] = byte(i)
	}
	return b
}()

func TestEncrypt(t *testing.T) {
	for _, key := range cryptoKeys {
		for _, b := range [][]byte{nil, {}, {0}, {255}, []byte("hello"), everyByte} {
			ciphertext, plaintext := impl.Encrypt(key, b), impl.Decrypt(key, b)
			if len(ciphertext) != len(b) || len(plaintext) != len(b) {
				t.Fatalf("with key %d %v became %v and %v", key, b, ciphertext, plaintext)
			}
			for i := range b {
				shift := slowHash([]int{key, i, key})
				if int(ciphertext[i]) != (int(b[i])+shift)%256 {
					t.Errorf("Encrypt(%d, %v) is %v", key, b, ciphertext)
				}
				if (int(plaintext[i])+shift)%256 != int(b[i]) {
					t.Errorf("Decrypt(%d, %v) is %v", key, b, plaintext)
				}
			}
		}
	}
}

// Promise 3: decryption inverts encryption, and encryption decryption; another key does not.
func TestDecryptInvertsEncrypt(t *testing.T) {
	for _, key := range cryptoKeys {
		for _, b := range [][]byte{nil, {}, {0}, {255}, []byte("hello"), everyByte} {
			if got := impl.Decrypt(key, impl.Encrypt(key, b)); !bytes.Equal(got, b) {
				t.Errorf("with the key %d, %v became %v", key, b, got)
			}
			if got := impl.Encrypt(key, impl.Decrypt(key, b)); !bytes.Equal(got, b) {
				t.Errorf("decrypted first with the key %d, %v became %v", key, b, got)
			}
		}
		if bytes.Equal(impl.Encrypt(key, everyByte), everyByte) || bytes.Equal(impl.Decrypt(key+1, impl.Encrypt(key, everyByte)), everyByte) {
			t.Errorf("the key %d does not hide anything", key)
		}
	}
}

func TestDeriveFromString(t *testing.T) {
	for _, label := range []string{"", "a", "ab", "ba", "a\x00", "\xff\xfe", "\u00e9", "a longer label"} {
		values := []int{len(label)}
		for i := range len(label) {
			values = append(values, int(label[i]))
		}
		for _, key := range cryptoKeys {
			want := slowHash(slices.Concat([]int{key}, values, []int{key}))
			if got := impl.DeriveFromString(key, label); got != want || got == 0 {
				t.Errorf("DeriveFromString(%d, %q) is %d, not %d", key, label, got, want)
			}
		}
	}
}

// 1310415589 is a key with which the keyed hash of the empty label is 0.
func TestDeriveFromStringIsNotZero(t *testing.T) {
	const key = 1310415589
	if impl.KeyedHash(key, []int{0}) != 0 {
		t.Fatalf("the keyed hash is %d", impl.KeyedHash(key, []int{0}))
	}
	if got := impl.DeriveFromString(key, ""); got != 1 {
		t.Errorf("the key is %d", got)
	}
}

func TestEqualInts(t *testing.T) {
	for _, c := range []struct {
		a, b []int
		want bool
	}{
		{nil, nil, true},
		{nil, []int{}, true},
		{[]int{}, nil, true},
		{[]int{0}, []int{0}, true},
		{[]int{1, -2, math.MaxInt}, []int{1, -2, math.MaxInt}, true},
		{nil, []int{0}, false},
		{[]int{0}, nil, false},
		{[]int{1}, []int{-1}, false},
		{[]int{1, 2}, []int{1, 3}, false},
		{[]int{1, 2}, []int{3, 2}, false},
		{[]int{1, 2}, []int{2, 1}, false},
		{[]int{1}, []int{1, 0}, false},
		{[]int{1, 0}, []int{1}, false},
		{[]int{0}, []int{1 << 32}, false},
	} {
		if got := impl.EqualInts(c.a, c.b); got != c.want {
			t.Errorf("EqualInts(%v, %v) is %t", c.a, c.b, got)
		}
	}
}

func TestCryptoKeepsArguments(t *testing.T) {
	for _, b := range [][]byte{{}, {7}, []byte("hello")} {
		keepsBytes(t, "Encrypt", b, func(b []byte) []byte { return impl.Encrypt(5, b) })
		keepsBytes(t, "Decrypt", b, func(b []byte) []byte { return impl.Decrypt(5, b) })
		keepsBytes(t, "BytesToInts", b, func(b []byte) []byte { scribble(impl.BytesToInts(b), -1); return nil })
	}
	for _, l := range [][]int{{}, {7}, {3, -1, 4}} {
		keepsInts(t, "Hash", l, func(l []int) []int { return []int{impl.Hash(l)} })
		keepsInts(t, "KeyedHash", l, func(l []int) []int { return []int{impl.KeyedHash(5, l)} })
		keepsInts(t, "EqualInts", l, func(l []int) []int { impl.EqualInts(l, l); return nil })
	}
}
