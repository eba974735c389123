package tests

import (
	"bytes"
	"math"
	"math/big"
	"slices"
	"strings"
	"testing"

	"loop.example/g00511/impl"
)

const modulus = 2147483647

// hashValues holds values around every limit of chapter 3; the first smallHashValues of them differ modulo Modulus.
var hashValues = []int{
	0, 1, 2, 5, 13, 255, 256, 1000003, modulus / 2, modulus - 2, modulus - 1,
	modulus, modulus + 1, 2*modulus - 1, 2 * modulus, 2*modulus + 1, 1 << 32, 1 << 40,
	-1, -2, -5, -255, -256, -modulus + 1, -modulus, -modulus - 1, -2 * modulus, math.MinInt32, -1 << 40,
	1000000000000, 1000000000001, -1000000000000,
	math.MinInt, math.MinInt + 1, math.MinInt + 2, math.MaxInt - 2, math.MaxInt - 1, math.MaxInt,
}

const smallHashValues = 11

// keys holds valid and invalid keys: every int is hashed.
var keys = []int{
	0, 1, 2, 77, modulus - 1, modulus, modulus + 1, -1, -5, -modulus, -modulus - 1, 1 << 40, math.MinInt, math.MaxInt,
}

// hashReference computes a hash as chapter 3 says, in integers without limit.
func hashReference(values ...int) int {
	m := big.NewInt(modulus)
	accumulator := big.NewInt(11)
	for _, v := range values {
		accumulator.Mul(accumulator, big.NewInt(1000003))
		accumulator.Add(accumulator, new(big.Int).Mod(big.NewInt(int64(v)), m))
		accumulator.Add(accumulator, big.NewInt(13))
		accumulator.Mod(accumulator, m)
	}
	return int(accumulator.Int64())
}

func keyedReference(key int, values ...int) int {
	return hashReference(slices.Concat([]int{key}, values, []int{key})...)
}

// shift adds sign times the key stream to the bytes, in integers that do not wrap around.
func shift(sign int, key int, data []byte) []byte {
	shifted := []byte{}
	for i, b := range data {
		sum := (int(b) + sign*keyedReference(key, i)) % 256
		shifted = append(shifted, byte((sum+256)%256))
	}
	return shifted
}

// intsWithSpare returns the values with spare capacity behind them that holds marks.
func intsWithSpare(values ...int) []int {
	whole := append(slices.Clone(values), 201, 202, 203, 204)
	return whole[:len(values)]
}

func checkIntsSpare(t *testing.T, name string, list []int, values ...int) {
	t.Helper()
	want := intsWithSpare(values...)
	if !slices.Equal(list[:len(want)+4], want[:len(want)+4]) {
		t.Errorf("%s changed its argument or its spare capacity: %v", name, list[:len(want)+4])
	}
}

func spoilInts(list []int) {
	list = list[:cap(list)]
	for i := range list {
		list[i] = 99
	}
}

// allBytes returns every byte value once.
func allBytes() []byte {
	list := make([]byte, 256)
	for i := range list {
		list[i] = byte(i)
	}
	return list
}

func TestModulus(t *testing.T) {
	if impl.Modulus != 2147483647 {
		t.Errorf("Modulus is %d", impl.Modulus)
	}
}

func TestHash(t *testing.T) {
	for _, c := range []struct {
		values []int
		want   int
	}{
		{nil, 11}, {[]int{}, 11},
		{[]int{5}, 11000051}, {[]int{0}, 11000046}, {[]int{0, 0}, 667760217}, {[]int{0, 0, 0}, 32762367},
		{[]int{1, 2}, 668760222}, {[]int{2, 1}, 669760224}, {[]int{1, 2, 3}, 1460866530},
		// around Modulus
		{[]int{2147483646}, 11000045}, {[]int{2147483647}, 11000046}, {[]int{2147483648}, 11000047},
		// negative values count as their remainders from 0 to Modulus-1
		{[]int{-1}, 11000045}, {[]int{-5}, 11000041}, {[]int{-2147483647}, 11000046}, {[]int{-2147483648}, 11000045},
		{[]int{1000000000000, -1000000000000}, 339527524},
		{[]int{math.MinInt}, 11000044}, {[]int{math.MaxInt}, 11000047},
	} {
		if got := impl.Hash(c.values); got != c.want {
			t.Errorf("Hash(%v) is %d, not %d", c.values, got, c.want)
		}
	}
}

func TestHashAgainstReference(t *testing.T) {
	for _, a := range hashValues {
		if got, want := impl.Hash([]int{a}), hashReference(a); got != want {
			t.Errorf("Hash of %d is %d, not %d", a, got, want)
		}
		for _, b := range hashValues {
			if got, want := impl.Hash([]int{a, b, a}), hashReference(a, b, a); got != want {
				t.Errorf("Hash of %d, %d, %d is %d, not %d", a, b, a, got, want)
			}
		}
	}
	// A long list passes through many accumulators; the range holds for each of them.
	long := []int{}
	for i := range 2000 {
		long = append(long, hashValues[i%len(hashValues)]+i)
		got := impl.Hash(long)
		if want := hashReference(long...); i%50 == 0 && got != want {
			t.Errorf("Hash of %d values is %d, not %d", i+1, got, want)
		}
		if got < 0 || got >= modulus {
			t.Errorf("Hash of %d values is %d", i+1, got)
		}
	}
}

// A hash depends on each value, on the order of the values and on their number, but only modulo Modulus.
func TestHashDependsOnEachValue(t *testing.T) {
	small := hashValues[:smallHashValues]
	base := []int{3, 1, 4, 1, 5}
	for i := range base {
		seen := map[int]int{}
		for _, v := range small {
			changed := slices.Clone(base)
			changed[i] = v
			got := impl.Hash(changed)
			if other, ok := seen[got]; ok {
				t.Errorf("%d and %d at index %d have the hash %d", other, v, i, got)
			}
			seen[got] = v
			changed[i] = v - modulus
			if equal := impl.Hash(changed); equal != got {
				t.Errorf("%d at index %d has the hash %d, and %d the hash %d", v, i, got, v-modulus, equal)
			}
		}
	}
	for _, lists := range [][2][]int{
		{{1, 2}, {2, 1}}, {{1, 2, 3}, {1, 3, 2}}, {{1, 2, 3}, {3, 2, 1}}, {{-1, 1}, {1, -1}},
		{nil, {0}}, {{0}, {0, 0}}, {{1, 2}, {1, 2, 0}}, {{1, 2}, {0, 1, 2}},
	} {
		if a, b := impl.Hash(lists[0]), impl.Hash(lists[1]); a == b {
			t.Errorf("%v and %v have the hash %d", lists[0], lists[1], a)
		}
	}
}

func TestKeyedHash(t *testing.T) {
	for _, c := range []struct {
		key    int
		values []int
		want   int
	}{
		{3, []int{4}, 20107550}, {77, []int{0}, 321116305}, {77, []int{1}, 322116308},
		{1, []int{2, 3}, 64571267}, {1, []int{3, 2}, 1489675418},
		// without values the key is still hashed twice
		{0, nil, 667760217}, {0, []int{}, 667760217}, {1, nil, 668760221}, {1, []int{}, 668760221},
		// keys that are not valid are hashed all the same
		{2147483646, nil, 666760213}, {2147483647, nil, 667760217}, {-3, []int{4}, 53417208},
		{math.MinInt, nil, 665760209}, {math.MaxInt, nil, 668760221}, {math.MaxInt, []int{math.MinInt}, 1456866516},
	} {
		if got := impl.KeyedHash(c.key, c.values); got != c.want {
			t.Errorf("KeyedHash(%d, %v) is %d, not %d", c.key, c.values, got, c.want)
		}
	}
	for _, key := range keys {
		for _, v := range hashValues {
			got := impl.KeyedHash(key, []int{v, 6})
			if want := keyedReference(key, v, 6); got != want {
				t.Errorf("KeyedHash(%d, {%d, 6}) is %d, not %d", key, v, got, want)
			}
			if same := impl.Hash([]int{key, v, 6, key}); got != same {
				t.Errorf("KeyedHash(%d, {%d, 6}) is %d, but the Hash with the key around it is %d", key, v, got, same)
			}
		}
	}
}

func TestKeyedHashDependsOnKeyAndValues(t *testing.T) {
	seen := map[int]int{}
	for _, key := range hashValues[:smallHashValues] {
		got := impl.KeyedHash(key, []int{2, 3})
		if other, ok := seen[got]; ok {
			t.Errorf("the keys %d and %d yield %d", other, key, got)
		}
		seen[got] = key
	}
	base := impl.KeyedHash(9, []int{2, 3})
	for _, values := range [][]int{{3, 2}, {2, 4}, {1, 3}, {2}, {3}, nil, {2, 3, 0}, {2, 3, 9}, {9, 2, 3}, {2, -3}, {-2, 3}} {
		if impl.KeyedHash(9, values) == base {
			t.Errorf("%v yields the keyed hash of 2, 3", values)
		}
	}
}

func TestHashesKeepTheirArguments(t *testing.T) {
	values := intsWithSpare(7, -1, 8)
	impl.Hash(values)
	impl.KeyedHash(55, values)
	impl.KeyedHash(55, values[:0])
	checkIntsSpare(t, "a hash", values, 7, -1, 8)
	// The spare capacity is not hashed.
	if impl.Hash(values) != impl.Hash([]int{7, -1, 8}) || impl.KeyedHash(55, values) != impl.KeyedHash(55, []int{7, -1, 8}) {
		t.Error("a hash depends on the spare capacity of its argument")
	}
}

func TestIsValidKey(t *testing.T) {
	for key, want := range map[int]bool{
		1: true, 2: true, 77: true, modulus / 2: true, 2147483645: true, 2147483646: true,
		0: false, -1: false, -77: false, -2147483646: false, -2147483647: false,
		2147483647: false, 2147483648: false, 2147483649: false, 1<<32 + 1: false, 1000000000000: false,
		math.MinInt: false, math.MinInt + 1: false, math.MaxInt - 1: false, math.MaxInt: false,
	} {
		if got := impl.IsValidKey(key); got != want {
			t.Errorf("IsValidKey(%d) is %v", key, got)
		}
	}
}

func TestBytesToInts(t *testing.T) {
	for _, c := range []struct {
		b    []byte
		want []int
	}{
		{nil, []int{0}}, {[]byte{}, []int{0}}, {[]byte{0}, []int{1, 0}}, {[]byte{9, 8}, []int{2, 9, 8}},
		{[]byte{127, 128, 255, 0}, []int{4, 127, 128, 255, 0}},
	} {
		if got := impl.BytesToInts(c.b); !slices.Equal(got, c.want) {
			t.Errorf("BytesToInts(%v) is %v, not %v", c.b, got, c.want)
		}
	}
	got := impl.BytesToInts(allBytes())
	if len(got) != 257 || got[0] != 256 {
		t.Fatalf("BytesToInts of 256 bytes is %v", got)
	}
	for i, n := range got[1:] {
		if n != i {
			t.Errorf("BytesToInts of the byte %d is %d", i, n)
		}
	}
}

func TestBytesToIntsKeepsItsArgument(t *testing.T) {
	b := withSpare(7, 200)
	one, two := impl.BytesToInts(b), impl.BytesToInts(b)
	spoilInts(one)
	checkSpare(t, "BytesToInts", b, 7, 200)
	if !slices.Equal(two, []int{2, 7, 200}) {
		t.Errorf("two results of BytesToInts share memory: %v", two)
	}
}

func TestEncrypt(t *testing.T) {
	for _, c := range []struct {
		key       int
		plaintext []byte
		want      []byte
	}{
		{77, []byte("hello"), []byte{249, 57, 131, 198, 12}},
		{1, []byte("hello"), []byte{194, 2, 76, 143, 213}},
		{0, []byte{0, 0, 0}, []byte{255, 66, 133}},
		{2147483647, []byte{0, 0, 0}, []byte{255, 66, 133}},
		{-1, []byte("abc"), []byte{4, 72, 140}},
		{math.MaxInt, []byte("abc"), []byte{187, 255, 67}},
		{math.MinInt, []byte{255, 255}, []byte{70, 137}},
		{77, nil, nil}, {77, []byte{}, nil}, {0, nil, nil}, {-1, nil, nil}, {math.MinInt, nil, nil},
	} {
		if got := impl.Encrypt(c.key, c.plaintext); !bytes.Equal(got, c.want) {
			t.Errorf("Encrypt(%d, %v) is %v, not %v", c.key, c.plaintext, got, c.want)
		}
		if got := impl.Decrypt(c.key, c.want); !bytes.Equal(got, c.plaintext) {
			t.Errorf("Decrypt(%d, %v) is %v, not %v", c.key, c.want, got, c.plaintext)
		}
	}
}

func TestEncryptAgainstReference(t *testing.T) {
	long := append(allBytes(), bytes.Repeat([]byte{0, 255, 128}, 200)...)
	for _, key := range keys {
		if got, want := impl.Encrypt(key, long), shift(1, key, long); !bytes.Equal(got, want) {
			t.Errorf("Encrypt with key %d is %v, not %v", key, got, want)
		}
		if got, want := impl.Decrypt(key, long), shift(-1, key, long); !bytes.Equal(got, want) {
			t.Errorf("Decrypt with key %d is %v, not %v", key, got, want)
		}
	}
}

func TestDecryptInvertsEncrypt(t *testing.T) {
	texts := [][]byte{nil, {}, {0}, {255}, []byte("hello"), allBytes(), bytes.Repeat([]byte{7}, 1000)}
	for b := range 256 {
		// one byte value at every index of a short text
		texts = append(texts, bytes.Repeat([]byte{byte(b)}, 5))
	}
	for _, key := range keys {
		for _, b := range texts {
			if got := impl.Decrypt(key, impl.Encrypt(key, b)); !bytes.Equal(got, b) {
				t.Errorf("with key %d, %v is encrypted and decrypted to %v", key, b, got)
			}
			if got := impl.Encrypt(key, impl.Decrypt(key, b)); !bytes.Equal(got, b) {
				t.Errorf("with key %d, %v is decrypted and encrypted to %v", key, b, got)
			}
		}
	}
}

// The key stream differs from key to key and from index to index, and starts anew with every call.
func TestKeyStream(t *testing.T) {
	zeros := make([]byte, 64)
	stream := impl.Encrypt(77, zeros)
	if !bytes.Equal(impl.Encrypt(77, zeros), stream) || !bytes.Equal(impl.Encrypt(77, zeros[:5]), stream[:5]) {
		t.Error("a key stream depends on more than the key and the index")
	}
	if bytes.Equal(impl.Encrypt(78, zeros), stream) || bytes.Equal(impl.Decrypt(78, stream), zeros) {
		t.Error("the keys 77 and 78 have one key stream")
	}
	if bytes.Equal(stream[1:], stream[:63]) {
		t.Error("a key stream does not depend on the index")
	}
	if !bytes.Equal(impl.Encrypt(77+modulus, zeros), stream) {
		t.Error("keys that are equal modulo Modulus have different key streams")
	}
}

func TestCiphersKeepTheirArguments(t *testing.T) {
	for _, c := range []struct {
		name   string
		cipher func(int, []byte) []byte
	}{{"Encrypt", impl.Encrypt}, {"Decrypt", impl.Decrypt}} {
		for _, data := range [][]byte{{}, {4}, {4, 5, 6}} {
			b := withSpare(data...)
			got := c.cipher(77, b)
			want := slices.Clone(got)
			checkSpare(t, c.name, b, data...)
			spoil(append(got, 1))
			spoil(got)
			checkSpare(t, c.name+", by its result,", b, data...)
			one, two := c.cipher(77, b), c.cipher(77, b)
			spoil(one)
			spoil(b)
			if !bytes.Equal(two, want) {
				t.Errorf("the result of %s shares memory: %v", c.name, two)
			}
		}
	}
}

func TestDeriveFromString(t *testing.T) {
	for _, c := range []struct {
		key   int
		label string
		want  int
	}{
		{5, "ab", 1905036959}, {5, "ba", 1182657463}, {5, "", 720832201},
		{0, "", 32762367}, {2147483647, "", 32762367}, {1, "\x00", 782950751}, {-5, "k", 1035031441},
		// a label is taken by bytes, not by characters
		{5, "\u00e9", 323562}, {5, "\xff\x80", 1773710446},
	} {
		if got := impl.DeriveFromString(c.key, c.label); got != c.want {
			t.Errorf("DeriveFromString(%d, %q) is %d, not %d", c.key, c.label, got, c.want)
		}
	}
	labels := []string{"", "\x00", "k", "key", "ab", "ba", "\u00e9", "\u20ac", "\xff", "\xff\x80", "a\xc3", "\ufffd", strings.Repeat("x", 300)}
	for _, key := range keys {
		for _, label := range labels {
			values := []int{len(label)}
			for _, b := range []byte(label) {
				values = append(values, int(b))
			}
			got := impl.DeriveFromString(key, label)
			if want := keyedReference(key, values...); got != want {
				t.Errorf("DeriveFromString(%d, %q) is %d, not %d", key, label, got, want)
			}
		}
	}
}

// Only a keyed hash of 0 is replaced, whether the key is valid or not.
func TestDeriveFromStringOfZero(t *testing.T) {
	for _, c := range []struct {
		label string
		key   int
	}{
		{"", 1310415589}, {"ab", 916074962}, {"\xff", 922699571}, {"\x00", 113566815}, {"key", 1750805042},
	} {
		for _, key := range []int{c.key, c.key + modulus, c.key - modulus} {
			if hash := impl.KeyedHash(key, impl.BytesToInts([]byte(c.label))); hash != 0 {
				t.Errorf("the keyed hash of %q with key %d is %d", c.label, key, hash)
			}
			if got := impl.DeriveFromString(key, c.label); got != 1 {
				t.Errorf("DeriveFromString(%d, %q) is %d", key, c.label, got)
			}
		}
		for _, key := range []int{c.key - 1, c.key + 1} {
			if got := impl.DeriveFromString(key, c.label); got == 1 || !impl.IsValidKey(got) {
				t.Errorf("DeriveFromString(%d, %q) is %d", key, c.label, got)
			}
		}
	}
}

func TestEqualInts(t *testing.T) {
	for _, c := range []struct {
		a, b []int
		want bool
	}{
		{nil, nil, true}, {nil, []int{}, true}, {[]int{}, nil, true}, {[]int{}, []int{}, true},
		{[]int{0}, []int{0}, true}, {[]int{5, 300}, []int{5, 300}, true},
		{[]int{math.MinInt, math.MaxInt}, []int{math.MinInt, math.MaxInt}, true},
		{nil, []int{0}, false}, {[]int{0}, nil, false}, {[]int{0}, []int{0, 0}, false},
		{[]int{5, 300}, []int{5}, false}, {[]int{5}, []int{5, 300}, false},
		{[]int{5, 300}, []int{300, 5}, false}, {[]int{5, 300}, []int{5, 301}, false}, {[]int{4, 300}, []int{5, 300}, false},
		{[]int{1, 2, 3}, []int{1, 0, 3}, false}, {[]int{1}, []int{-1}, false},
		// differences that no byte and no 32-bit integer shows
		{[]int{1}, []int{257}, false}, {[]int{1}, []int{1<<32 + 1}, false}, {[]int{math.MinInt}, []int{0}, false},
	} {
		if got := impl.EqualInts(c.a, c.b); got != c.want {
			t.Errorf("EqualInts(%v, %v) is %v", c.a, c.b, got)
		}
	}
}
