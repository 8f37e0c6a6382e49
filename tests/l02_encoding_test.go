package tests

import (
	"bytes"
	"math"
	"slices"
	"testing"

	"loop.example/g03010/impl"
)

const mostValue = 1000000000000

var uvarints = []struct {
	n int
	b []byte
}{
	{0, []byte{0}},
	{1, []byte{1}},
	{127, []byte{127}},
	{128, []byte{128, 1}},
	{129, []byte{129, 1}},
	{255, []byte{255, 1}},
	{256, []byte{128, 2}},
	{300, []byte{172, 2}},
	{16383, []byte{255, 127}},
	{16384, []byte{128, 128, 1}},
	{2097151, []byte{255, 255, 127}},
	{2097152, []byte{128, 128, 128, 1}},
	{268435455, []byte{255, 255, 255, 127}},
	{268435456, []byte{128, 128, 128, 128, 1}},
	{34359738367, []byte{255, 255, 255, 255, 127}},
	{34359738368, []byte{128, 128, 128, 128, 128, 1}},
	{mostValue - 1, []byte{255, 159, 148, 165, 141, 29}},
	{mostValue, []byte{128, 160, 148, 165, 141, 29}},
}

func TestAppendUvarint(t *testing.T) {
	for _, c := range uvarints {
		for _, before := range [][]byte{nil, {}, {9}, {128, 255, 0}} {
			want := append(slices.Clone(before), c.b...)
			if got := impl.AppendUvarint(before, c.n); !bytes.Equal(got, want) {
				t.Errorf("AppendUvarint(%v, %d) is %v, not %v", before, c.n, got, want)
			}
		}
	}
}

func TestAppendUvarintInvalid(t *testing.T) {
	for _, n := range []int{-1, -128, math.MinInt, mostValue + 1, 2 * mostValue, math.MaxInt} {
		for _, before := range [][]byte{nil, {}, {9}, {128, 255, 0}} {
			if got := impl.AppendUvarint(before, n); !bytes.Equal(got, before) {
				t.Errorf("AppendUvarint(%v, %d) is %v", before, n, got)
			}
		}
	}
}

func TestReadUvarint(t *testing.T) {
	for _, c := range uvarints {
		for _, before := range [][]byte{nil, {9}, {128, 255, 0}} {
			for _, behind := range [][]byte{nil, {0}, {255, 255, 255, 255, 255, 255, 255}} {
				b := slices.Concat(before, c.b, behind)
				n, next, ok := impl.ReadUvarint(b, len(before))
				if n != c.n || next != len(before)+len(c.b) || !ok {
					t.Errorf("ReadUvarint(%v, %d) is %d, %d, %t", b, len(before), n, next, ok)
				}
			}
		}
	}
}

func checkNoUvarint(t *testing.T, b []byte, offset int) {
	t.Helper()
	if n, next, ok := impl.ReadUvarint(b, offset); n != 0 || next != 0 || ok {
		t.Errorf("ReadUvarint(%v, %d) is %d, %d, %t", b, offset, n, next, ok)
	}
}

func TestReadUvarintOffsets(t *testing.T) {
	for _, b := range [][]byte{nil, {}, {5}, {1, 2, 3}} {
		for _, offset := range []int{-1, -2, len(b), len(b) + 1, math.MaxInt, math.MaxInt - 1, math.MaxInt - 6, math.MinInt} {
			checkNoUvarint(t, b, offset)
		}
	}
	b := []byte{172, 2, 7}
	if n, next, ok := impl.ReadUvarint(b, 1); n != 2 || next != 2 || !ok {
		t.Errorf("from the middle of a varint: %d, %d, %t", n, next, ok)
	}
	if n, next, ok := impl.ReadUvarint(b, 2); n != 7 || next != 3 || !ok {
		t.Errorf("the last byte: %d, %d, %t", n, next, ok)
	}
}

func TestReadUvarintInvalid(t *testing.T) {
	for _, b := range [][]byte{
		{128}, {255}, {128, 128}, {172, 130}, {255, 255, 255, 255, 255}, {255, 255, 255, 255, 255, 255}, // the input ends
		{128, 0}, {255, 0}, {128, 128, 0}, {129, 255, 0}, {128, 128, 128, 128, 128, 0}, // not minimal
		{128, 128, 128, 128, 128, 128, 0}, {128, 128, 128, 128, 128, 128, 1}, {129, 128, 128, 128, 128, 128, 0}, // longer than six bytes
		{255, 255, 255, 255, 255, 255, 255, 255, 255, 1}, {128, 128, 128, 128, 128, 128, 128, 128, 128, 128, 128, 128},
		{129, 160, 148, 165, 141, 29}, {128, 160, 148, 165, 141, 30}, {255, 255, 255, 255, 255, 127}, {128, 128, 128, 128, 128, 64}, // greater than MaxValue
	} {
		for _, before := range [][]byte{nil, {9}, {128}} {
			checkNoUvarint(t, slices.Concat(before, b), len(before))
		}
	}
}

// Promise 2: of all strings of these bytes, just those are read that AppendUvarint writes.
func TestReadUvarintInvertsAppendUvarint(t *testing.T) {
	letters := []byte{0, 1, 29, 127, 128, 129, 255}
	texts := [][]byte{{}}
	for length := 0; length <= 6; length++ {
		var longer [][]byte
		for _, b := range texts {
			n, next, ok := impl.ReadUvarint(b, 0)
			if ok && !bytes.Equal(impl.AppendUvarint(nil, n), b[:next]) || !ok && (n != 0 || next != 0) {
				t.Fatalf("ReadUvarint(%v, 0) is %d, %d, %t", b, n, next, ok)
			}
			if first := firstVarint(b); ok != (first > 0) || ok && next != first {
				t.Fatalf("ReadUvarint(%v, 0) is %d, %d, %t, but the varint has %d bytes", b, n, next, ok, first)
			}
			for _, x := range letters {
				longer = append(longer, append(slices.Clone(b), x))
			}
		}
		texts = longer
	}
}

// firstVarint returns the length of the valid varint with which b begins, 0 if there is none.
func firstVarint(b []byte) int {
	last := slices.IndexFunc(b, func(x byte) bool { return x < 128 })
	if last < 0 || last > 5 || last > 0 && b[last] == 0 {
		return 0
	}
	n := 0
	for i := last; i >= 0; i-- {
		n = n*128 + int(b[i])%128
	}
	if n > mostValue {
		return 0
	}
	return last + 1
}

func TestAppendBytes(t *testing.T) {
	long := bytes.Repeat([]byte{3}, 300)
	for _, before := range [][]byte{nil, {}, {9}, {128, 255}} {
		for _, c := range []struct{ data, want []byte }{
			{nil, []byte{0}},
			{[]byte{}, []byte{0}},
			{[]byte{0}, []byte{1, 0}},
			{[]byte{7, 8}, []byte{2, 7, 8}},
			{[]byte{255, 128, 0}, []byte{3, 255, 128, 0}},
			{long[:127], append([]byte{127}, long[:127]...)},
			{long[:128], append([]byte{128, 1}, long[:128]...)},
			{long, append([]byte{172, 2}, long...)},
		} {
			want := append(slices.Clone(before), c.want...)
			if got := impl.AppendBytes(before, c.data); !bytes.Equal(got, want) {
				t.Errorf("AppendBytes(%v, %v) is %v", before, c.data, got)
			}
			got, next, ok := impl.ReadBytes(append(want, 77), len(before), len(c.data))
			if !bytes.Equal(got, c.data) || next != len(want) || !ok {
				t.Errorf("read again, %v is %v, %d, %t", c.data, got, next, ok)
			}
		}
	}
}

func TestReadBytes(t *testing.T) {
	for _, c := range []struct {
		b              []byte
		offset, maxLen int
		want           []byte
		next           int
	}{
		{[]byte{0}, 0, 0, nil, 1},
		{[]byte{0, 1}, 0, 5, nil, 1},
		{[]byte{2, 7, 8}, 0, 2, []byte{7, 8}, 3},
		{[]byte{2, 7, 8}, 0, 3, []byte{7, 8}, 3},
		{[]byte{2, 7, 8, 9}, 0, math.MaxInt, []byte{7, 8}, 3},
		{[]byte{9, 2, 7, 8}, 1, 2, []byte{7, 8}, 4},
		{[]byte{2, 1, 8}, 1, 1, []byte{8}, 3},
		{[]byte{5, 5, 0}, 2, 0, nil, 3},
	} {
		got, next, ok := impl.ReadBytes(c.b, c.offset, c.maxLen)
		if !bytes.Equal(got, c.want) || next != c.next || !ok {
			t.Errorf("ReadBytes(%v, %d, %d) is %v, %d, %t", c.b, c.offset, c.maxLen, got, next, ok)
		}
	}
}

func TestReadBytesInvalid(t *testing.T) {
	for _, c := range []struct {
		b              []byte
		offset, maxLen int
	}{
		{nil, 0, 9},
		{[]byte{}, 0, 0},
		{[]byte{2, 7, 8}, -1, 9},
		{[]byte{2, 7, 8}, 3, 9},
		{[]byte{2, 7, 8}, 4, 9},
		{[]byte{2, 7, 8}, math.MaxInt, 9},
		{[]byte{2, 7, 8}, math.MinInt, 9},
		{[]byte{130, 0, 8}, 0, 9}, // a length that is not minimal
		{[]byte{128}, 0, 9},
		{[]byte{129, 160, 148, 165, 141, 29, 1}, 0, math.MaxInt},
		{[]byte{128, 160, 148, 165, 141, 29, 1}, 0, math.MaxInt},
		{[]byte{128, 128, 128, 128, 128, 128, 1, 1}, 0, math.MaxInt},
		{[]byte{2, 7, 8}, 0, 1},
		{[]byte{2, 7, 8}, 0, 0},
		{[]byte{2, 7, 8}, 0, -1},
		{[]byte{0}, 0, -1},
		{[]byte{0}, 0, math.MinInt},
		{[]byte{2, 7}, 0, 2},
		{[]byte{2}, 0, 2},
		{[]byte{1}, 0, 1},
		{[]byte{9, 9, 9, 3, 1, 2}, 3, 9},
	} {
		got, next, ok := impl.ReadBytes(c.b, c.offset, c.maxLen)
		if len(got) != 0 || next != 0 || ok {
			t.Errorf("ReadBytes(%v, %d, %d) is %v, %d, %t", c.b, c.offset, c.maxLen, got, next, ok)
		}
	}
}

func TestEncodeInts(t *testing.T) {
	for _, c := range []struct {
		values []int
		want   []byte
	}{
		{nil, nil},
		{[]int{}, nil},
		{[]int{0}, []byte{0}},
		{[]int{5, 300}, []byte{5, 172, 2}},
		{[]int{300, 5, 300}, []byte{172, 2, 5, 172, 2}},
		{[]int{-1}, nil},
		{[]int{-1, 5, mostValue + 1, 6, math.MinInt, math.MaxInt}, []byte{5, 6}},
		{[]int{mostValue}, []byte{128, 160, 148, 165, 141, 29}},
	} {
		if got := impl.EncodeInts(c.values); !bytes.Equal(got, c.want) {
			t.Errorf("EncodeInts(%v) is %v", c.values, got)
		}
	}
}

func checkInts(t *testing.T, b []byte, offset int, count int, want []int, next int) {
	t.Helper()
	got, end, ok := impl.DecodeInts(b, offset, count)
	if !slices.Equal(got, want) || end != next || !ok {
		t.Errorf("DecodeInts(%v, %d, %d) is %v, %d, %t", b, offset, count, got, end, ok)
	}
}

func checkNoInts(t *testing.T, b []byte, offset int, count int) {
	t.Helper()
	got, end, ok := impl.DecodeInts(b, offset, count)
	if len(got) != 0 || end != 0 || ok {
		t.Errorf("DecodeInts(%v, %d, %d) is %v, %d, %t", b, offset, count, got, end, ok)
	}
}

func TestDecodeInts(t *testing.T) {
	b := []byte{5, 172, 2, 0, 127}
	checkInts(t, b, 0, 0, nil, 0)
	checkInts(t, b, 0, 1, []int{5}, 1)
	checkInts(t, b, 0, 2, []int{5, 300}, 3)
	checkInts(t, b, 0, 4, []int{5, 300, 0, 127}, 5)
	checkInts(t, b, 1, 2, []int{300, 0}, 4)
	checkInts(t, b, 2, 3, []int{2, 0, 127}, 5)
	checkInts(t, b, 4, 0, nil, 4)
	checkInts(t, b, 5, 0, nil, 5)
	checkInts(t, nil, 0, 0, nil, 0)
	checkInts(t, []byte{}, 0, 0, nil, 0)
	checkInts(t, make([]byte, 101), 0, 100, make([]int, 100), 100)
	checkInts(t, []byte{128}, 0, 0, nil, 0)
}

func TestDecodeIntsInvalid(t *testing.T) {
	b := []byte{5, 172, 2, 0, 127}
	for _, count := range []int{-1, -100, math.MinInt, 101, 102, math.MaxInt} {
		checkNoInts(t, b, 0, count)
		checkNoInts(t, make([]byte, 200), 0, count)
		checkNoInts(t, nil, 0, count)
	}
	for _, offset := range []int{-1, -2, math.MinInt, 6, 7, math.MaxInt, math.MaxInt - 6} {
		checkNoInts(t, b, offset, 0)
		checkNoInts(t, b, offset, 1)
	}
	checkNoInts(t, nil, 1, 0)
	checkNoInts(t, nil, 0, 1)
	checkNoInts(t, b, 0, 5)
	checkNoInts(t, b, 5, 1)
	checkNoInts(t, b, 0, 100)
	checkNoInts(t, []byte{5, 128, 0, 6}, 0, 2)
	checkNoInts(t, []byte{5, 128, 0, 6}, 0, 3)
	checkNoInts(t, []byte{5, 6, 172}, 0, 3)
	checkNoInts(t, []byte{5, 129, 160, 148, 165, 141, 29, 6}, 0, 3)
	checkNoInts(t, []byte{5, 128, 128, 128, 128, 128, 128, 1, 6}, 0, 3)
	checkNoInts(t, make([]byte, 99), 0, 100)
}

// Promise 2: what EncodeInts writes is read again, from every offset at which it stands.
func TestDecodeIntsInvertsEncodeInts(t *testing.T) {
	random := numbers{7}
	for range 300 {
		values := []int{}
		for range random.below(20) {
			values = append(values, random.below(mostValue+1)>>random.below(41))
		}
		before := bytes.Repeat([]byte{200}, random.below(5))
		b := slices.Concat(before, impl.EncodeInts(values))
		checkInts(t, append(slices.Clone(b), 200), len(before), len(values), values, len(b))
		checkNoInts(t, b, len(before), len(values)+1)
	}
}

func TestEqualBytes(t *testing.T) {
	for _, c := range []struct {
		a, b []byte
		want bool
	}{
		{nil, nil, true},
		{nil, []byte{}, true},
		{[]byte{}, nil, true},
		{[]byte{0}, []byte{0}, true},
		{[]byte{1, 2, 255}, []byte{1, 2, 255}, true},
		{nil, []byte{0}, false},
		{[]byte{0}, nil, false},
		{[]byte{1}, []byte{2}, false},
		{[]byte{1, 2}, []byte{1, 3}, false},
		{[]byte{1, 2}, []byte{3, 2}, false},
		{[]byte{1, 2}, []byte{2, 1}, false},
		{[]byte{1}, []byte{1, 0}, false},
		{[]byte{1, 0}, []byte{1}, false},
	} {
		if got := impl.EqualBytes(c.a, c.b); got != c.want {
			t.Errorf("EqualBytes(%v, %v) is %t", c.a, c.b, got)
		}
	}
}

func TestEncodingKeepsArguments(t *testing.T) {
	for _, b := range [][]byte{{}, {2}, {2, 7, 8}, {0, 1}, {128, 0}} {
		for _, n := range []int{5, 300, -1, mostValue + 1} {
			keepsBytes(t, "AppendUvarint", b, func(b []byte) []byte { return impl.AppendUvarint(b, n) })
		}
		for _, data := range [][]byte{nil, {4, 5, 6}} {
			keepsBytes(t, "AppendBytes", b, func(b []byte) []byte { return impl.AppendBytes(b, data) })
			keepsBytes(t, "AppendBytes", data, func(data []byte) []byte { return impl.AppendBytes(b, data) })
		}
		for _, maxLen := range []int{0, 1, 2, 9} {
			keepsBytes(t, "ReadBytes", b, func(b []byte) []byte { data, _, _ := impl.ReadBytes(b, 0, maxLen); return data })
		}
		keepsBytes(t, "ReadUvarint", b, func(b []byte) []byte { impl.ReadUvarint(b, 0); return nil })
		keepsBytes(t, "DecodeInts", b, func(b []byte) []byte { impl.DecodeInts(b, 0, 2); return nil })
		keepsBytes(t, "EqualBytes", b, func(b []byte) []byte { impl.EqualBytes(b, b); return nil })
	}
	keepsInts(t, "EncodeInts", []int{5, -1, 300}, func(l []int) []int { impl.EncodeInts(l); return nil })
}
