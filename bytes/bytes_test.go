package bytes

import (
	"math"
	"slices"
	"testing"

	"joust/api"
	"joust/chance"
)

// numbered is a number and its bytes.
type numbered struct {
	v int
	b []byte
}

// ends is how the bytes of a number of n bytes begin, all as great as they may be, and its last one.
func ends(n int, first, middle, last byte) []byte {
	if n == 1 {
		return []byte{last}
	}
	b := slices.Repeat([]byte{middle}, n)
	b[0], b[n-1] = first, last
	return b
}

// numbers is some with their bytes, written out: ordinary ones, and for each number of bytes from one to nine the ones at its bounds.
func numbers() []numbered {
	return []numbered{
		{0, []byte{0}}, {-1, []byte{1}}, {1, []byte{2}}, {-2, []byte{3}}, {2, []byte{4}}, {5, []byte{10}}, {-33, []byte{65}},
		{1000, []byte{208, 15}}, {-1000, []byte{207, 15}}, {1024, []byte{128, 16}}, {150, []byte{172, 2}}, {4095, []byte{254, 63}},
		{63, []byte{126}}, {-64, []byte{127}},
		{64, []byte{128, 1}}, {-65, []byte{129, 1}}, {8191, []byte{254, 127}}, {-8192, []byte{255, 127}},
		{8192, []byte{128, 128, 1}}, {-8193, []byte{129, 128, 1}}, {1048575, []byte{254, 255, 127}}, {-1048576, []byte{255, 255, 127}},
		{1048576, []byte{128, 128, 128, 1}}, {-1048577, []byte{129, 128, 128, 1}}, {134217727, ends(4, 254, 255, 127)}, {-134217728, ends(4, 255, 255, 127)},
		{134217728, ends(5, 128, 128, 1)}, {-134217729, ends(5, 129, 128, 1)}, {17179869183, ends(5, 254, 255, 127)}, {-17179869184, ends(5, 255, 255, 127)},
		{17179869184, ends(6, 128, 128, 1)}, {-17179869185, ends(6, 129, 128, 1)}, {2199023255551, ends(6, 254, 255, 127)}, {-2199023255552, ends(6, 255, 255, 127)},
		{2199023255552, ends(7, 128, 128, 1)}, {-2199023255553, ends(7, 129, 128, 1)}, {281474976710655, ends(7, 254, 255, 127)}, {-281474976710656, ends(7, 255, 255, 127)},
		{281474976710656, ends(8, 128, 128, 1)}, {-281474976710657, ends(8, 129, 128, 1)}, {36028797018963967, ends(8, 254, 255, 127)}, {-36028797018963968, ends(8, 255, 255, 127)},
		{36028797018963968, ends(9, 128, 128, 1)}, {-36028797018963969, ends(9, 129, 128, 1)}, {4611686018427387903, ends(9, 254, 255, 127)}, {-4611686018427387904, ends(9, 255, 255, 127)},
		{4611686018427387902, ends(9, 252, 255, 127)}, {-4611686018427387903, ends(9, 253, 255, 127)},
	}
}

// beyond is numbers that are held first, and the bytes of what they are held at.
func beyond() []numbered {
	top, bottom := ends(9, 254, 255, 127), ends(9, 255, 255, 127)
	return []numbered{
		{1 << 62, top}, {1<<62 + 1, top}, {math.MaxInt - 1, top}, {math.MaxInt, top},
		{-1<<62 - 1, bottom}, {-1<<62 - 2, bottom}, {math.MinInt + 1, bottom}, {math.MinInt, bottom},
	}
}

// roomy is a copy of l with room behind its end, filled.
func roomy[T any](l []T, filler T) []T {
	return append(slices.Clone(l), filler, filler, filler)[:len(l)]
}

// overwrite writes into all memory of l, also into the room behind its end.
func overwrite[T any](l []T, filler T) {
	l = l[:cap(l)]
	for i := range l {
		l[i] = filler
	}
}

// written is what a Writer has behind the calls of all that write.
func written(all ...func(w *Writer)) []byte {
	var w Writer
	for _, write := range all {
		write(&w)
	}
	return w.Bytes()
}

// put and raw are calls for written.
func put(l ...int) func(w *Writer) { return func(w *Writer) { w.Put(l...) } }

func raw(b ...byte) func(w *Writer) { return func(w *Writer) { w.Raw(b) } }

func TestPutOfEachNumber(t *testing.T) {
	for _, n := range append(numbers(), beyond()...) {
		if b := written(put(n.v)); !slices.Equal(b, n.b) {
			t.Errorf("P11.1: Put(%d): %v; want %v", n.v, b, n.b)
		}
	}
}

func TestPutOfManyNumbers(t *testing.T) {
	var all []int
	var want []byte
	for _, n := range append(numbers(), beyond()...) {
		all = append(all, n.v)
		want = append(want, n.b...)
	}
	one := func(w *Writer) {
		for _, v := range all {
			w.Put(v)
		}
	}
	for i, b := range [][]byte{written(put(all...)), written(one), written(put(all[:7]...), put(), put(all[7:]...)), written(put(), put(nil...), put(all...), put())} {
		if !slices.Equal(b, want) {
			t.Errorf("P11.1: the way %d: %v; want %v", i, b, want)
		}
	}
	if b := written(put(0, -1, 64)); !slices.Equal(b, []byte{0x00, 0x01, 0x80, 0x01}) {
		t.Errorf("P11.1: the example: %x", b)
	}
	if b := written(put(5, 5, 5)); !slices.Equal(b, []byte{10, 10, 10}) {
		t.Errorf("P11.1: a number again: %v", b)
	}
}

func TestPutOfNothing(t *testing.T) {
	for i, b := range [][]byte{written(), written(put()), written(put(nil...)), written(put(), put([]int{}...), put())} {
		if len(b) != 0 {
			t.Errorf("P11.1: nothing was put, %d: %v", i, b)
		}
	}
}

func TestRawWrites(t *testing.T) {
	for i, r := range []struct{ b, ahead []byte }{
		{nil, []byte{0}}, {[]byte{}, []byte{0}}, {[]byte{0}, []byte{2}}, {[]byte{255}, []byte{2}}, {[]byte{7, 128, 0}, []byte{6}},
		{slices.Repeat([]byte{200}, 63), []byte{126}}, {slices.Repeat([]byte{200}, 64), []byte{128, 1}},
		{slices.Repeat([]byte{1}, 127), []byte{254, 1}}, {slices.Repeat([]byte{0}, 128), []byte{128, 2}},
		{slices.Repeat([]byte{9}, 8191), []byte{254, 127}}, {slices.Repeat([]byte{9}, 8192), []byte{128, 128, 1}}, {slices.Repeat([]byte{0, 99}, 30000), []byte{192, 169, 7}},
	} {
		if b := written(raw(r.b...)); !slices.Equal(b, append(slices.Clone(r.ahead), r.b...)) {
			t.Errorf("P11.1: Raw of the row %d, %d bytes: %d bytes", i, len(r.b), len(b))
		}
	}
	if b := written(raw(1, 2), put(-3), raw(), raw(255), put(64, 0)); !slices.Equal(b, []byte{4, 1, 2, 5, 0, 2, 255, 128, 1, 0}) {
		t.Errorf("P11.1: Raw and Put, in order: %v", b)
	}
}

func TestBytesAreAllSoFar(t *testing.T) {
	var w Writer
	var want []byte
	if len(w.Bytes()) != 0 {
		t.Errorf("P11.1: nothing was written: %v", w.Bytes())
	}
	for i, n := range numbers() {
		w.Put(n.v, -1)
		w.Raw(n.b)
		want = append(append(append(append(want, n.b...), 1), byte(2*len(n.b))), n.b...)
		if b, again := w.Bytes(), w.Bytes(); !slices.Equal(b, want) || !slices.Equal(again, want) {
			t.Fatalf("P11.1: behind %d rounds: %v, asked again %v; want %v", i+1, b, again, want)
		}
	}
}

func TestANilWriterWritesNothing(t *testing.T) {
	var w *Writer
	w.Put()
	w.Put(1)
	w.Put(1, 2, math.MinInt)
	w.Raw(nil)
	w.Raw([]byte{1, 2})
	if b := w.Bytes(); len(b) != 0 {
		t.Errorf("P11.1: a nil Writer: %v", b)
	}
	if b := written(put(3)); !slices.Equal(b, []byte{6}) {
		t.Errorf("R2: a Writer beside a nil one: %v", b)
	}
}

// pairs is a Writer that writes more.
type pairs struct {
	Writer
	many int
}

// putPair writes two numbers.
func (p *pairs) putPair(a, b int) {
	p.many++
	p.Put(a, b)
}

func TestAWriterIsEmbedded(t *testing.T) {
	var p, q pairs
	p.putPair(1, 2)
	q.putPair(5, 5)
	p.Raw([]byte{9})
	p.putPair(-1, 64)
	if b := p.Bytes(); !slices.Equal(b, []byte{2, 4, 2, 9, 1, 128, 1}) || p.many != 2 {
		t.Errorf("P11.1: what embeds a Writer: %v, %d", b, p.many)
	}
	if b := q.Bytes(); !slices.Equal(b, []byte{10, 10}) {
		t.Errorf("R2: another one: %v", b)
	}
}

func TestWhatAWriterIsGivenStays(t *testing.T) {
	l, b := roomy([]int{1, math.MinInt, 3}, 77), roomy([]byte{8, 9}, 77)
	wholeL, wholeB := slices.Clone(l[:cap(l)]), slices.Clone(b[:cap(b)])
	var w Writer
	w.Put(l...)
	w.Raw(b)
	if !slices.Equal(l[:cap(l)], wholeL) || !slices.Equal(b[:cap(b)], wholeB) {
		t.Errorf("R3: what was handed in, %v, %v, is %v, %v", wholeL, wholeB, l[:cap(l)], b[:cap(b)])
	}
	want := w.Bytes()
	overwrite(l, 55)
	overwrite(b, 55)
	if !slices.Equal(w.Bytes(), want) {
		t.Errorf("R3: what was handed in is kept: %v; was %v", w.Bytes(), want)
	}
}

func TestBytesAreNewMemory(t *testing.T) {
	for i, write := range []func(w *Writer){put(), put(1), put(1, 2, 3), raw(1, 2, 3), func(w *Writer) { w.Put(1); w.Raw([]byte{5}); w.Put(7) }} {
		var w Writer
		write(&w)
		b, c := w.Bytes(), w.Bytes()
		want := slices.Clone(b)
		overwrite(b, 99)
		if !slices.Equal(c, want) || !slices.Equal(w.Bytes(), want) {
			t.Errorf("R3: the row %d: %v is %v, asked again %v", i, want, c, w.Bytes())
		}
		w.Put(9)
		overwrite(c, 98)
		if !slices.Equal(w.Bytes(), append(slices.Clone(want), 18)) {
			t.Errorf("R3: the row %d: 9 behind %v is %v", i, want, w.Bytes())
		}
	}
}

func TestWritersGoOnByThemselves(t *testing.T) {
	var w, other Writer
	w.Put(1, 2, 3)
	copied := w
	other.Put(9)
	copied.Put(4)
	w.Raw([]byte{5})
	copied.Put(6)
	again := copied
	copied.Put(7)
	again.Put(8)
	for i, r := range []struct{ b, want []byte }{
		{w.Bytes(), []byte{2, 4, 6, 2, 5}}, {copied.Bytes(), []byte{2, 4, 6, 8, 12, 14}},
		{again.Bytes(), []byte{2, 4, 6, 8, 12, 16}}, {other.Bytes(), []byte{18}},
	} {
		if !slices.Equal(r.b, r.want) {
			t.Errorf("R2: the Writer %d: %v; want %v", i, r.b, r.want)
		}
	}
}

func TestIntOfEachNumber(t *testing.T) {
	for _, n := range numbers() {
		for _, behind := range [][]byte{nil, {0}, {1}, {127}, {128}, {255, 255, 255, 255, 255, 255, 255, 255, 255, 255}} {
			r := Read(append(slices.Clone(n.b), behind...))
			if e, left := r.Err(), r.Left(); e != api.OK || left != len(n.b)+len(behind) {
				t.Errorf("P11.2: ahead of %v: error %d, %d left", n.b, e, left)
			}
			if v := r.Int(); v != n.v || r.Err() != api.OK || r.Left() != len(behind) {
				t.Errorf("P11.2: Int of %v, and %v behind it: %d, error %d, %d left; want %d", n.b, behind, v, r.Err(), r.Left(), n.v)
			}
		}
	}
}

func TestIntOfManyNumbers(t *testing.T) {
	var b []byte
	for _, n := range append(numbers(), beyond()...) {
		b = append(b, n.b...)
	}
	r, left := Read(b), len(b)
	for _, n := range append(numbers(), beyond()...) {
		left -= len(n.b)
		want := min(max(n.v, -1<<62), 1<<62-1)
		if v := r.Int(); v != want || r.Err() != api.OK || r.Left() != left {
			t.Fatalf("P11.2: Int: %d, error %d, %d left; want %d, %d left", v, r.Err(), r.Left(), want, left)
		}
	}
	expectWrong(t, r, "behind the end", r.Int(), api.ErrShort)
}

// expectWrong asks that n, which was read of r, is 0, and that r tells want, and reads nothing, from then on.
func expectWrong(t *testing.T, r *Reader, what string, n int, want api.Errno) {
	t.Helper()
	if n != 0 {
		t.Errorf("R4: %s: %d beside an error", what, n)
	}
	for i, read := range everyRead() {
		if r.Err() != want || r.Left() != 0 {
			t.Errorf("P11.2: %s: error %d, %d left; want the error %d, ahead of the read %d", what, r.Err(), r.Left(), want, i)
		}
		if n := read(r); n != 0 {
			t.Errorf("P11.2: %s: the read %d behind it: %d", what, i, n)
		}
	}
	if r.Err() != want || r.Left() != 0 {
		t.Errorf("P11.2: %s: error %d, %d left; want the error %d, behind it", what, r.Err(), r.Left(), want)
	}
}

// everyRead is all calls that read, each as a number that is 0 if it reads nothing.
func everyRead() []func(r *Reader) int {
	return []func(r *Reader) int{
		(*Reader).Int, count(9), count(0), count(-1), count(math.MinInt), count(math.MaxInt), rawRead,
		func(r *Reader) int { return cap(r.Raw()) }, (*Reader).Int,
	}
}

// count is the call Count(most), rawRead is Raw as a number: how many bytes.
func count(most int) func(r *Reader) int { return func(r *Reader) int { return r.Count(most) } }

func rawRead(r *Reader) int { return len(r.Raw()) }

// short is bytes of which no number has an end.
func short() [][]byte {
	l := [][]byte{nil, {}, {128}, {255}, {129}, {128, 128}, {200, 255, 128}}
	for n := 8; n <= 12; n++ {
		l = append(l, slices.Repeat([]byte{128}, n), slices.Repeat([]byte{255}, n))
	}
	return append(l, slices.Repeat([]byte{255}, 1000))
}

// misformed is bytes that begin with a number that has more bytes than nine, or than need be.
func misformed() [][]byte {
	l := [][]byte{{128, 0}, {129, 0}, {255, 0}, {128, 128, 0}, {129, 255, 0}}
	for n := 9; n <= 12; n++ {
		for _, last := range []byte{0, 1, 64, 127} {
			l = append(l, ends(n+1, 255, 255, last), ends(n+1, 128, 128, last))
		}
	}
	for n := 2; n <= 9; n++ {
		l = append(l, ends(n, 128, 128, 0), ends(n, 255, 255, 0), ends(n, 1+128, 128, 0))
	}
	return append(l, ends(1000, 255, 255, 1))
}

func TestIntOfWhatIsNone(t *testing.T) {
	for _, ahead := range [][]byte{nil, {0}, {127}, {128, 1}, {255, 255, 255, 255, 255, 255, 255, 255, 127}} {
		for _, b := range short() {
			for i, read := range []func(r *Reader) int{(*Reader).Int, count(math.MaxInt), count(0), count(-1), rawRead} {
				r := Read(append(slices.Clone(ahead), b...))
				skip(t, r, len(ahead))
				expectWrong(t, r, "ErrShort of the read "+string(rune('0'+i)), read(r), api.ErrShort)
			}
		}
		for _, b := range misformed() {
			for _, behind := range [][]byte{nil, {0}, {128}, {2, 5}} {
				for i, read := range []func(r *Reader) int{(*Reader).Int, count(math.MaxInt), count(0), count(-1), rawRead} {
					r := Read(slices.Concat(ahead, b, behind))
					skip(t, r, len(ahead))
					expectWrong(t, r, "ErrForm of the read "+string(rune('0'+i)), read(r), api.ErrForm)
				}
			}
		}
	}
}

// skip reads the number of n bytes that stands next, if n is not 0.
func skip(t *testing.T, r *Reader, n int) {
	t.Helper()
	if n == 0 {
		return
	}
	left := r.Left()
	if r.Int(); r.Err() != api.OK || r.Left() != left-n {
		t.Errorf("P11.2: a number of %d bytes: error %d, %d left of %d", n, r.Err(), r.Left(), left)
	}
}

func TestCount(t *testing.T) {
	for _, r := range []struct {
		v, most int
		want    api.Errno
	}{
		{0, 0, api.OK}, {0, 1, api.OK}, {1, 1, api.OK}, {5, 9, api.OK}, {9, 9, api.OK}, {8, 9, api.OK}, {1000, 1000, api.OK}, {999, 1000, api.OK}, {0, math.MaxInt, api.OK},
		{1<<62 - 1, 1<<62 - 1, api.OK}, {1<<62 - 1, 1 << 62, api.OK}, {1<<62 - 1, math.MaxInt, api.OK},
		{1, 0, api.ErrForm}, {2, 1, api.ErrForm}, {10, 9, api.ErrForm}, {1001, 1000, api.ErrForm}, {1<<62 - 1, 1<<62 - 2, api.ErrForm}, {1<<62 - 1, 0, api.ErrForm},
		{-1, 0, api.ErrForm}, {-1, 9, api.ErrForm}, {-1, math.MaxInt, api.ErrForm}, {-1 << 62, math.MaxInt, api.ErrForm}, {-1000, 1000, api.ErrForm},
		{0, -1, api.ErrForm}, {-1, -1, api.ErrForm}, {-5, -1, api.ErrForm}, {-2, -2, api.ErrForm}, {1, -1, api.ErrForm}, {0, math.MinInt, api.ErrForm}, {-1 << 62, math.MinInt, api.ErrForm}, {-1 << 62, -1 << 62, api.ErrForm},
	} {
		x := Read(written(put(7, r.v, 3)))
		x.Int()
		v := x.Count(r.most)
		if r.want != api.OK {
			expectWrong(t, x, "Count", v, r.want)
		} else if v != r.v || x.Err() != api.OK || x.Left() != 1 || x.Int() != 3 {
			t.Errorf("P11.2: Count(%d) of %d: %d, error %d, %d left", r.most, r.v, v, x.Err(), x.Left())
		}
	}
}

func TestRawReads(t *testing.T) {
	for i, b := range [][]byte{nil, {0}, {255}, {128, 128}, {1, 2, 3}, slices.Repeat([]byte{5}, 63), slices.Repeat([]byte{6}, 64), slices.Repeat([]byte{255}, 127), slices.Repeat([]byte{7}, 128), slices.Repeat([]byte{8}, 60000)} {
		for _, behind := range []func(w *Writer){put(), put(0), put(-65), raw(1, 2)} {
			r := Read(written(raw(b...), behind))
			if got := r.Raw(); !slices.Equal(got, b) || r.Err() != api.OK || r.Left() != len(written(behind)) {
				t.Errorf("P11.2: Raw of the row %d: %d bytes, error %d, %d left", i, len(got), r.Err(), r.Left())
			}
		}
	}
	r := Read(written(raw(), raw(1), raw(), raw(2, 3)))
	if a, b, c, d := r.Raw(), r.Raw(), r.Raw(), r.Raw(); len(a) != 0 || !slices.Equal(b, []byte{1}) || len(c) != 0 || !slices.Equal(d, []byte{2, 3}) || r.Err() != api.OK || r.Left() != 0 {
		t.Errorf("P11.2: Raw again and again: %v, %v, %v, %v, error %d", a, b, c, d, r.Err())
	}
}

func TestRawOfWhatIsNone(t *testing.T) {
	for i, r := range []struct {
		b    []byte
		want api.Errno
	}{
		{written(put(-1)), api.ErrForm}, {written(put(-1, 5, 5)), api.ErrForm}, {written(put(-64), raw(1)), api.ErrForm}, {written(put(-1<<62, 0)), api.ErrForm},
		{[]byte{2}, api.ErrShort}, {[]byte{4, 9}, api.ErrShort}, {[]byte{6, 9, 9}, api.ErrShort}, {[]byte{126}, api.ErrShort}, {[]byte{128, 1}, api.ErrShort},
		{append([]byte{128, 1}, slices.Repeat([]byte{9}, 63)...), api.ErrShort}, {written(put(1<<62 - 1)), api.ErrShort}, {written(put(1<<62-1, 5, 5)), api.ErrShort}, {written(put(1 << 32)), api.ErrShort},
	} {
		for _, ahead := range []int{0, 1, 2} {
			x := Read(append(make([]byte, ahead), r.b...))
			for range ahead {
				x.Int()
			}
			if x.Err() != api.OK || x.Left() != len(r.b) {
				t.Errorf("P11.2: ahead of the row %d: error %d, %d left", i, x.Err(), x.Left())
			}
			b := x.Raw()
			if b != nil && cap(b) != 0 {
				t.Errorf("R4: the row %d: %v beside an error", i, b)
			}
			expectWrong(t, x, "Raw", len(b), r.want)
		}
	}
}

func TestTheFirstThingThatIsWrongStays(t *testing.T) {
	for i, r := range []struct {
		read func(r *Reader) int
		b    []byte
		want api.Errno
	}{
		{(*Reader).Int, nil, api.ErrShort}, {(*Reader).Int, []byte{128}, api.ErrShort}, {(*Reader).Int, []byte{128, 0, 7, 7}, api.ErrForm}, {count(1), []byte{4, 128, 0}, api.ErrForm},
		{rawRead, []byte{1, 128}, api.ErrForm}, {rawRead, []byte{8, 1, 128, 0}, api.ErrShort}, {rawRead, []byte{128, 0}, api.ErrForm},
	} {
		x := Read(r.b)
		if x.Err() != api.OK || x.Left() != len(r.b) {
			t.Errorf("P11.2: the row %d: ahead of it error %d, %d left", i, x.Err(), x.Left())
		}
		expectWrong(t, x, "first", r.read(x), r.want)
		expectWrong(t, x, "later", r.read(x), r.want)
	}
}

func TestReadersOfNothing(t *testing.T) {
	var none *Reader
	expectWrong(t, none, "a nil Reader", none.Int(), api.ErrNil)
	var zero Reader
	for i, r := range []*Reader{Read(nil), Read([]byte{}), &zero} {
		if r.Err() != api.OK || r.Left() != 0 {
			t.Errorf("P11.2: Read of nothing, %d: error %d, %d left", i, r.Err(), r.Left())
		}
		expectWrong(t, r, "Read of nothing", r.Int(), api.ErrShort)
	}
}

func TestWhatAReaderIsGivenStays(t *testing.T) {
	b := roomy(written(put(5, -70), raw(1, 2, 3), put(9)), 77)
	all := slices.Clone(b[:cap(b)])
	r := Read(b)
	if r.Int() != 5 {
		t.Error("P11.2: 5 stands first")
	}
	overwrite(b, 255)
	if r.Int() != -70 || !slices.Equal(r.Raw(), []byte{1, 2, 3}) || r.Count(9) != 9 || r.Left() != 0 || r.Err() != api.OK {
		t.Errorf("R3: what was handed in is kept: error %d, %d left", r.Err(), r.Left())
	}
	b = slices.Clone(all)[:len(b)]
	r = Read(b)
	for !slices.Contains([]api.Errno{api.ErrShort, api.ErrForm}, r.Err()) {
		if got := r.Raw(); len(got) > 0 {
			overwrite(got, 66)
		}
	}
	if !slices.Equal(b[:cap(b)][:len(all)], all) {
		t.Errorf("R3: what was handed in, %v, is %v", all, b[:cap(b)])
	}
	// Room behind the end is not read.
	if r := Read(append([]byte{128}, 1)[:1]); r.Int() != 0 || r.Err() != api.ErrShort {
		t.Errorf("P11.2: the room behind the end is read: error %d", r.Err())
	}
}

func TestRawIsNewMemory(t *testing.T) {
	r := Read(written(raw(1, 2), raw(3, 4), put(5)))
	a := r.Raw()
	overwrite(a, 99)
	b := r.Raw()
	if !slices.Equal(b, []byte{3, 4}) {
		t.Errorf("R3: behind writing into what was read: %v", b)
	}
	overwrite(b, 98)
	if v := r.Int(); v != 5 || !slices.Equal(a, []byte{99, 99}) {
		t.Errorf("R3: behind writing into what was read: %d, %v", v, a)
	}
}

func TestReadersGoOnByThemselves(t *testing.T) {
	b := written(put(1, 2), raw(3), put(-4))
	r, other := Read(b), Read(b)
	r.Int()
	copied := *r
	r.Int()
	copied.Count(0)
	if copied.Err() != api.ErrForm || copied.Left() != 0 || r.Err() != api.OK || !slices.Equal(r.Raw(), []byte{3}) || r.Int() != -4 || r.Left() != 0 {
		t.Errorf("R2: a Reader, error %d, and its copy, error %d", r.Err(), copied.Err())
	}
	if other.Left() != len(b) || other.Int() != 1 || other.Int() != 2 || other.Left() != 3 {
		t.Errorf("R2: another Reader of the same: %d left", other.Left())
	}
}

// dice counts chance for a test.
type dice struct{ seed, rolls int }

// roll is from 0 on below n.
func (d *dice) roll(n int) int {
	d.rolls++
	return chance.Below(n, uint64(d.seed), d.rolls)
}

// number is any that can be written, of all lengths.
func (d *dice) number() int {
	v := d.roll(1 << 62)
	v >>= d.roll(63)
	if d.roll(2) == 0 {
		return -v - 1
	}
	return v
}

func TestWhatIsWrittenIsRead(t *testing.T) {
	for seed := range 300 {
		d := &dice{seed: seed}
		var w Writer
		var reads []func(r *Reader) bool
		for range d.roll(40) {
			if d.roll(3) == 0 {
				b := make([]byte, d.roll(200))
				for i := range b {
					b[i] = byte(d.roll(256))
				}
				w.Raw(b)
				reads = append(reads, func(r *Reader) bool { return slices.Equal(r.Raw(), b) })
				continue
			}
			l := make([]int, d.roll(5))
			for i := range l {
				l[i] = d.number()
				reads = append(reads, func(r *Reader) bool { return r.Int() == l[i] })
			}
			w.Put(l...)
		}
		r := Read(w.Bytes())
		for i, read := range reads {
			if !read(r) || r.Err() != api.OK {
				t.Fatalf("P11.2: the seed %d: the read %d, error %d", seed, i, r.Err())
			}
		}
		if r.Left() != 0 {
			t.Errorf("P11.2: the seed %d: %d left", seed, r.Left())
		}
		expectWrong(t, r, "behind the end", r.Int(), api.ErrShort)
	}
}

// plainInt is Int of b by the chapter's words, counted in another way: by sums of powers, bit by bit.
func plainInt(b []byte) (v, n int, e api.Errno) {
	for n < len(b) && b[n] >= 128 {
		n++
	}
	if n == len(b) {
		return 0, 0, api.ErrShort
	}
	n++
	if n > 9 || n > 1 && b[n-1] == 0 {
		return 0, 0, api.ErrForm
	}
	sum := uint64(0)
	for i := n - 1; i >= 0; i-- {
		sum = sum*128 + uint64(b[i]&127)
	}
	if sum%2 == 1 {
		return -int((sum + 1) / 2), n, api.OK
	}
	return int(sum / 2), n, api.OK
}

func TestIntOfAllFewBytes(t *testing.T) {
	palette := []byte{0, 1, 2, 63, 127, 128, 129, 255}
	var walk func(b []byte)
	walk = func(b []byte) {
		v, n, e := plainInt(b)
		r := Read(b)
		if got := r.Int(); got != v || r.Err() != e || e == api.OK && r.Left() != len(b)-n {
			t.Errorf("P11.2: Int of %v: %d, error %d, %d left; want %d, error %d", b, got, r.Err(), r.Left(), v, e)
		}
		if e == api.OK && !slices.Equal(written(put(v)), b[:n]) {
			t.Errorf("P11.1: Put(%d): %v; want %v", v, written(put(v)), b[:n])
		}
		if len(b) < 4 {
			for _, c := range palette {
				walk(append(slices.Clone(b), c))
			}
		}
	}
	walk(nil)
}
