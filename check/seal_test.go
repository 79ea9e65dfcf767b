package check

import (
	"slices"
	"testing"

	"joust/api"
)

// sealed is bytes and their Seal, written out.
type sealed struct {
	name    string
	b, seal []byte
}

// behind is the Seal of b, whose sum has the bytes head.
func behind(b []byte, head ...byte) []byte { return append(head, b...) }

// seals is some bytes with their Seals: the sums of sums, byte by byte.
func seals() []sealed {
	l := []sealed{
		{"nil", nil, behind(nil, 0x24, 0x3f, 0x6a, 0x88, 0x85, 0xa3, 0x08, 0xd3)},
		{"nothing", []byte{}, behind(nil, 0x24, 0x3f, 0x6a, 0x88, 0x85, 0xa3, 0x08, 0xd3)},
		{"0", []byte{0}, behind([]byte{0}, 0x75, 0x2d, 0x64, 0x2b, 0x11, 0xa7, 0x9a, 0x34)},
		{"255", []byte{255}, behind([]byte{255}, 0x73, 0x18, 0x8b, 0x05, 0x6a, 0xa8, 0x42, 0xb7)},
		{"0 0", []byte{0, 0}, behind([]byte{0, 0}, 0x7b, 0x13, 0x9b, 0xa5, 0x05, 0x2d, 0x91, 0xa6)},
		{"joust", []byte("joust"), behind([]byte("joust"), 0x80, 0xf6, 0x3c, 0x1b, 0xfb, 0x9d, 0x95, 0x72)},
		{"every byte", everyByte(), behind(everyByte(), 0x0f, 0x2b, 0x26, 0x42, 0x23, 0x6b, 0x88, 0xea)},
		{"a thousand", rising(1000, 7), behind(rising(1000, 7), 0x88, 0x8f, 0x52, 0xb2, 0x65, 0xb4, 0xfc, 0xba)},
		{"60,000 of 0", make([]byte, 60000), behind(make([]byte, 60000), 0xf9, 0xd3, 0x8f, 0xd0, 0x3d, 0xc5, 0xcd, 0xb9)},
	}
	// What is sealed is bytes as any others are.
	again := l[5].seal
	return append(l, sealed{"a Seal", again, behind(again, headOf(Sum(again))...)})
}

// headOf is the bytes of the number sum, the highest first, written another way.
func headOf(sum uint64) []byte {
	return []byte{byte(sum >> 56), byte(sum >> 48), byte(sum >> 40), byte(sum >> 32), byte(sum >> 24), byte(sum >> 16), byte(sum >> 8), byte(sum)}
}

func TestSeal(t *testing.T) {
	for _, r := range seals() {
		for range 2 {
			if b := Seal(r.b); !slices.Equal(b, r.seal) {
				t.Errorf("P13.2: Seal of %s: %v of %d bytes; want %v of %d", r.name, b[:min(8, len(b))], len(b), r.seal[:8], len(r.seal))
			}
		}
	}
}

func TestSealOfEachSum(t *testing.T) {
	for _, r := range sums() {
		if b := Seal(r.b); !slices.Equal(b, behind(r.b, headOf(r.sum)...)) {
			t.Errorf("P13.2: Seal of %s: %v of %d bytes", r.name, b[:min(8, len(b))], len(b))
		}
	}
}

func TestOpen(t *testing.T) {
	for _, r := range seals() {
		for range 2 {
			if b, e := Open(r.seal); e != api.OK || !slices.Equal(b, r.b) {
				t.Errorf("P13.2: Open of the Seal of %s: %d bytes, error %d; want %d", r.name, len(b), e, len(r.b))
			}
		}
		if b, e := Open(Seal(r.b)); e != api.OK || !slices.Equal(b, r.b) {
			t.Errorf("P13.2: what was opened is not what was sealed: of %s %d bytes, error %d", r.name, len(b), e)
		}
	}
}

func TestOpenOfManySeals(t *testing.T) {
	whole := rising(400, 13)
	for from := range 20 {
		for to := from; to <= len(whole); to++ {
			if b, e := Open(Seal(whole[from:to])); e != api.OK || !slices.Equal(b, whole[from:to]) {
				t.Fatalf("P13.2: from %d to %d: %v, error %d", from, to, b, e)
			}
		}
	}
}

// refused asks that b does not open, by the error want.
func refused(t *testing.T, what string, b []byte, want api.Errno) {
	t.Helper()
	inside, e := Open(b)
	if e != want {
		t.Errorf("P13.2: Open of %s: error %d; want %d", what, e, want)
	}
	if len(inside) > 0 {
		t.Errorf("R4: Open of %s: %v beside an error", what, inside)
	}
}

func TestOpenOfTooFewBytes(t *testing.T) {
	refused(t, "nil", nil, api.ErrShort)
	refused(t, "no bytes", []byte{}, api.ErrShort)
	for n := range 8 {
		refused(t, "bytes of 0", make([]byte, n), api.ErrShort)
		refused(t, "bytes of 0 with room behind", make([]byte, n, 20), api.ErrShort)
		refused(t, "bytes of 255", slices.Repeat([]byte{255}, n), api.ErrShort)
		for _, r := range seals() {
			// The bytes that are missing are there, but behind the end.
			refused(t, "the beginning of the Seal of "+r.name, r.seal[:n], api.ErrShort)
		}
	}
}

func TestOpenOfEightBytes(t *testing.T) {
	nothing := headOf(none)
	if b, e := Open(nothing); e != api.OK || len(b) != 0 {
		t.Errorf("P13.2: Open of the Seal of nothing: %v, error %d", b, e)
	}
	refused(t, "eight bytes of 0", make([]byte, 8), api.ErrSum)
	refused(t, "eight bytes of 255", slices.Repeat([]byte{255}, 8), api.ErrSum)
	lowest := slices.Clone(nothing)
	slices.Reverse(lowest)
	refused(t, "the sum of nothing, the lowest byte first", lowest, api.ErrSum)
	for _, r := range seals()[2:] {
		refused(t, "the sum of "+r.name+" alone", r.seal[:8], api.ErrSum)
	}
}

// TestOpenOfOneByteTurned: whatever one byte of a Seal is turned into, it does not open.
func TestOpenOfOneByteTurned(t *testing.T) {
	for _, r := range seals() {
		if len(r.seal) > 300 {
			continue
		}
		b := slices.Clone(r.seal)
		for at := range b {
			for by := 1; by <= 255; by++ {
				b[at] ^= byte(by)
				refused(t, "the Seal of "+r.name+" with a byte turned", b, api.ErrSum)
				b[at] ^= byte(by)
			}
		}
	}
}

func TestOpenOfOneBitTurned(t *testing.T) {
	b := Seal(rising(1000, 7))
	for at := range b {
		for bit := range 8 {
			b[at] ^= 1 << bit
			refused(t, "the Seal of a thousand with a bit turned", b, api.ErrSum)
			b[at] ^= 1 << bit
		}
	}
}

func TestOpenOfAnotherLength(t *testing.T) {
	for _, r := range seals() {
		if len(r.seal) > 300 {
			continue
		}
		for at := range r.seal {
			less, twice := slices.Delete(slices.Clone(r.seal), at, at+1), slices.Insert(slices.Clone(r.seal), at, r.seal[at])
			want := api.ErrSum
			if len(less) < 8 {
				want = api.ErrShort
			}
			refused(t, "the Seal of "+r.name+" without a byte", less, want)
			refused(t, "the Seal of "+r.name+" with a byte doubled", twice, api.ErrSum)
			refused(t, "the Seal of "+r.name+" with a byte put in", slices.Insert(slices.Clone(r.seal), at, 77), api.ErrSum)
		}
		for more := range 256 {
			refused(t, "the Seal of "+r.name+" with a byte behind", append(slices.Clone(r.seal), byte(more)), api.ErrSum)
		}
		refused(t, "the Seal of "+r.name+" with itself behind", slices.Concat(r.seal, r.seal), api.ErrSum)
	}
}

func TestOpenOfTheSumOfSomethingElse(t *testing.T) {
	for i, a := range seals() {
		for j, b := range seals() {
			if i != j && len(a.b)+len(b.b) > 0 {
				refused(t, b.name+" behind the sum of "+a.name, append(slices.Clone(a.seal[:8]), b.b...), api.ErrSum)
			}
		}
	}
	joust := []byte("joust")
	for i, sum := range []uint64{0, Sum(joust) - 1, Sum(joust) + 1, ^Sum(joust), Sum(joust)<<32 | Sum(joust)>>32, Sum(Seal(joust)), Sum(joust, headOf(Sum(joust)))} {
		refused(t, "joust behind the wrong sum "+string(rune('0'+i)), append(headOf(sum), joust...), api.ErrSum)
	}
	refused(t, "joust with its sum behind", append([]byte("joust"), headOf(Sum(joust))...), api.ErrSum)
	refused(t, "what was not sealed", rising(300, 7), api.ErrSum)
}

// roomy is a copy of b with room behind its end, and all of that memory.
func roomy(b []byte) (part, whole []byte) {
	whole = append(slices.Clone(b), 77, 78, 79, 80, 81, 82, 83, 84, 85)
	return whole[:len(b)], whole
}

// overwrite writes into all memory of b, also into the room behind its end.
func overwrite(b []byte) {
	b = b[:cap(b)]
	for i := range b {
		b[i] = ^b[i]
	}
}

func TestWhatIsSealedStays(t *testing.T) {
	for _, r := range seals() {
		in, whole := roomy(r.b)
		was := slices.Clone(whole)
		b, again := Seal(in), Seal(in)
		if !slices.Equal(whole, was) {
			t.Errorf("R3: Seal of %s changes what is handed in", r.name)
		}
		overwrite(in)
		if !slices.Equal(b, r.seal) {
			t.Errorf("R3: the Seal of %s keeps what was handed in", r.name)
		}
		copy(whole, was)
		overwrite(b)
		if !slices.Equal(whole, was) || !slices.Equal(again, r.seal) {
			t.Errorf("R3: the Seal of %s is no new memory", r.name)
		}
	}
}

func TestWhatIsOpenedStays(t *testing.T) {
	for _, r := range seals() {
		in, whole := roomy(r.seal)
		was := slices.Clone(whole)
		b, e := Open(in)
		again, f := Open(in)
		if e != api.OK || f != api.OK || !slices.Equal(whole, was) {
			t.Errorf("R3: Open of the Seal of %s changes what is handed in (errors %d, %d)", r.name, e, f)
		}
		overwrite(in)
		if !slices.Equal(b, r.b) {
			t.Errorf("R3: what is opened of the Seal of %s keeps what was handed in", r.name)
		}
		copy(whole, was)
		overwrite(b)
		if !slices.Equal(whole, was) || !slices.Equal(again, r.b) {
			t.Errorf("R3: what is opened of the Seal of %s is no new memory", r.name)
		}
	}
}

func TestWhatIsRefusedStays(t *testing.T) {
	in, whole := roomy([]byte("no Seal at all"))
	was := slices.Clone(whole)
	refused(t, "no Seal", in, api.ErrSum)
	refused(t, "too little", in[:7], api.ErrShort)
	if !slices.Equal(whole, was) {
		t.Errorf("R3: Open changes what it refuses: %v", whole)
	}
}
