package name_test

import (
	"bytes"
	"math"
	"slices"
	"strings"
	"testing"

	"jacquard/api"
	"jacquard/leb"
	"jacquard/name"
)

// isLetter is the document's word: which numbers are letters.
func isLetter(r rune) bool {
	return r >= 0 && r <= 0x10ffff && (r < 0xd800 || r > 0xdfff)
}

// lettersBytes is the document's word: a letter's bytes.
func lettersBytes(r rune) []byte {
	six := func(from int) byte { return byte(0x80 + r>>from%64) }
	switch {
	case r < 0x80:
		return []byte{byte(r)}
	case r < 0x800:
		return []byte{byte(0xc0 + r>>6), six(0)}
	case r < 0x10000:
		return []byte{byte(0xe0 + r>>12), six(6), six(0)}
	}
	return []byte{byte(0xf0 + r>>18), six(12), six(6), six(0)}
}

// asked is what the document's words say of b: its letters, and whether it is a text.
func asked(b []byte) (l []rune, ok bool) {
next:
	for len(b) > 0 {
		for _, r := range guesses(b) {
			if isLetter(r) && bytes.HasPrefix(b, lettersBytes(r)) {
				l, b = append(l, r), b[len(lettersBytes(r)):]
				continue next
			}
		}
		return nil, false
	}
	return l, true
}

// guesses: the numbers that b could begin with, one for each number of bytes.
func guesses(b []byte) []rune {
	l := []rune{rune(b[0])}
	r := rune(b[0])
	for i, mask := range []rune{0x7ff, 0xffff, 0x1fffff} {
		if len(b) > i+1 {
			r = r<<6 | rune(b[i+1]%64)
			l = append(l, r&mask)
		}
	}
	return l
}

// hold holds Is and Letters against the document's words.
func hold(t *testing.T, b []byte) {
	t.Helper()
	want, ok := asked(b)
	if name.Is(b) != ok {
		t.Fatalf("Is(%x) = %v", b, !ok)
	}
	err := api.OK
	if !ok {
		err = api.ErrForm
	}
	if l, e := name.Letters(b); !slices.Equal(l, want) || e != err {
		t.Fatalf("Letters(%x) = %x, %v; want %x, %v", b, l, e, want, err)
	}
}

// P2.1: the document's examples, and the edges by hand.
func TestTexts(t *testing.T) {
	for _, c := range []struct {
		b []byte
		l []rune
	}{
		{nil, nil},
		{[]byte{}, []rune{}},
		{[]byte{0x24, 0xc2, 0xa2, 0xe2, 0x82, 0xac, 0xf0, 0x90, 0x8d, 0x88}, []rune{0x24, 0xa2, 0x20ac, 0x10348}},
		{[]byte("ab"), []rune{0x61, 0x62}},
		// the first and the last letter of each number of bytes
		{[]byte{0x00}, []rune{0}},
		{[]byte{0x7f}, []rune{0x7f}},
		{[]byte{0xc2, 0x80}, []rune{0x80}},
		{[]byte{0xdf, 0xbf}, []rune{0x7ff}},
		{[]byte{0xe0, 0xa0, 0x80}, []rune{0x800}},
		{[]byte{0xef, 0xbf, 0xbf}, []rune{0xffff}},
		{[]byte{0xf0, 0x90, 0x80, 0x80}, []rune{0x10000}},
		{[]byte{0xf4, 0x8f, 0xbf, 0xbf}, []rune{0x10ffff}},
		// around those that are none
		{[]byte{0xed, 0x9f, 0xbf}, []rune{0xd7ff}},
		{[]byte{0xee, 0x80, 0x80}, []rune{0xe000}},
		// a mark at the front, and the letter that stands for what is no text, are letters
		{[]byte{0xef, 0xbb, 0xbf, 0x61}, []rune{0xfeff, 0x61}},
		{[]byte{0xef, 0xbf, 0xbd}, []rune{0xfffd}},
		{[]byte{0xef, 0xbf, 0xbd, 0xef, 0xbf, 0xbd, 0x00}, []rune{0xfffd, 0xfffd, 0}},
	} {
		if !name.Is(c.b) {
			t.Errorf("Is(%x) = false", c.b)
		}
		if l, e := name.Letters(c.b); !slices.Equal(l, c.l) || e != api.OK {
			t.Errorf("Letters(%x) = %x, %v; want %x", c.b, l, e, c.l)
		}
		if b, e := name.Put(c.l); !bytes.Equal(b, c.b) || e != api.OK {
			t.Errorf("Put(%x) = %x, %v; want %x", c.l, b, e, c.b)
		}
	}
}

// notTexts: bytes that are no text, of each kind.
func notTexts() [][]byte {
	return [][]byte{
		// forms that are too long
		{0xc0, 0x80}, {0xc0, 0xaf}, {0xc1, 0xbf}, {0xe0, 0x80, 0x80}, {0xe0, 0x9f, 0xbf},
		{0xf0, 0x80, 0x80, 0x80}, {0xf0, 0x8f, 0xbf, 0xbf}, {0xf8, 0x88, 0x80, 0x80, 0x80}, {0xfc, 0x84, 0x80, 0x80, 0x80, 0x80},
		// d800 to dfff, also as two that would make one letter
		{0xed, 0xa0, 0x80}, {0xed, 0xaf, 0xbf}, {0xed, 0xb0, 0x80}, {0xed, 0xbf, 0xbf}, {0xed, 0xa0, 0x80, 0xed, 0xb0, 0x80},
		// above 10ffff
		{0xf4, 0x90, 0x80, 0x80}, {0xf5, 0x80, 0x80, 0x80}, {0xf7, 0xbf, 0xbf, 0xbf},
		// an end within a letter
		{0xc2}, {0xdf}, {0xe2}, {0xe2, 0x82}, {0xf0}, {0xf0, 0x90}, {0xf0, 0x90, 0x8d}, {0xf4, 0x8f, 0xbf},
		// a byte that begins no letter
		{0x80}, {0xbf}, {0x80, 0x80}, {0xfe}, {0xff}, {0xf8},
		// a letter begins within another one
		{0xc2, 0x41}, {0xe2, 0x82, 0x41}, {0xe2, 0x41, 0xac}, {0xf0, 0x90, 0x8d, 0x41}, {0xc2, 0xc2, 0xa2}, {0xc2, 0xa2, 0xa2},
	}
}

// P2.1: bytes that are no text stay none, whatever text is ahead of them or behind.
func TestNotTexts(t *testing.T) {
	for _, wrong := range notTexts() {
		for _, ahead := range []string{"", "a", "\u20ac", strings.Repeat("long ", 20)} {
			for _, behind := range []string{"", "a", "\U00010348", strings.Repeat(" long", 20)} {
				b := []byte(ahead + string(wrong) + behind)
				if name.Is(b) {
					t.Errorf("Is(%x) = true", b)
				}
				if l, e := name.Letters(b); len(l) != 0 || e != api.ErrForm {
					t.Errorf("Letters(%x) = %x, %v", b, l, e)
				}
			}
		}
	}
}

// P2.1: numbers that are no letters, wherever they stand.
func TestNotLetters(t *testing.T) {
	wrong := []rune{-1, -2, -0x80, -0x24, 0xd800, 0xd801, 0xdbff, 0xdc00, 0xdfff, 0x110000, 0x110001, 0x200000, math.MaxInt32, math.MinInt32, math.MinInt32 + 0x61}
	for _, r := range wrong {
		for _, l := range [][]rune{{r}, {0x61, r}, {r, 0x61}, {0x10348, r, 0x24}, {r, r}} {
			if b, e := name.Put(l); len(b) != 0 || e != api.ErrArg {
				t.Errorf("Put(%x) = %x, %v", l, b, e)
			}
		}
	}
}

// P2.1, P2.4: each number up to well beyond the last letter.
func TestEachLetter(t *testing.T) {
	for r := rune(-0x1000); r < 0x112000; r++ {
		b, e := name.Put([]rune{r})
		if !isLetter(r) {
			if len(b) != 0 || e != api.ErrArg {
				t.Fatalf("Put(%x) = %x, %v", r, b, e)
			}
			continue
		}
		if !bytes.Equal(b, lettersBytes(r)) || e != api.OK {
			t.Fatalf("Put(%x) = %x, %v; want %x", r, b, e, lettersBytes(r))
		}
		if l, e := name.Letters(b); !slices.Equal(l, []rune{r}) || e != api.OK || !name.Is(b) {
			t.Fatalf("Letters(%x) = %x, %v; want %x", b, l, e, r)
		}
	}
}

// P2.1: all rows of one and two bytes; those with what stands around the edges
// of six bits behind them, once, and twice where four bytes may be a letter.
func TestReadAsAsked(t *testing.T) {
	edges := []byte{0x00, 0x41, 0x7f, 0x80, 0x81, 0x8f, 0x90, 0x9f, 0xa0, 0xbe, 0xbf, 0xc0, 0xc2, 0xe2, 0xf0, 0xff}
	for first := range 256 {
		hold(t, []byte{byte(first)})
		for second := range 256 {
			hold(t, []byte{byte(first), byte(second)})
			for _, third := range edges {
				hold(t, []byte{byte(first), byte(second), third})
				if first < 0xef {
					continue
				}
				for _, fourth := range edges {
					hold(t, []byte{byte(first), byte(second), third, fourth})
				}
			}
		}
	}
}

// P2.1: each piece of a text that has letters of all lengths.
func TestPieces(t *testing.T) {
	b := []byte("a\u00a2\u20ac\U00010348\ud7ff\ue000\U0010ffff\ufffdz")
	for from := range b {
		for to := from; to <= len(b); to++ {
			hold(t, b[from:to])
		}
	}
}

// rowCase is a place in a row of bytes, and what Row and Name answer there.
type rowCase struct {
	b     string
	at    int
	row   string
	next  int
	eRow  api.Errno
	eName api.Errno
}

func rowCases() []rowCase {
	long, longer := strings.Repeat("x", 127), strings.Repeat("\u20ac", 100)
	form := api.ErrForm
	return []rowCase{
		{"\x02ab", 0, "ab", 3, 0, 0},
		{"\x82\x00ab", 0, "ab", 4, 0, 0},
		{"\x03a", 0, "", 0, form, form},
		{"\x01\x80", 0, "\x80", 2, 0, form},
		// what is behind is not the row's
		{"\x02abc", 0, "ab", 3, 0, 0},
		{"\x01\xe2\x82\xac", 0, "\xe2", 2, 0, form},
		{"\x03\xe2\x82\xac\xff", 0, "\u20ac", 4, 0, 0},
		// empty rows, and numbers that are not in the short form
		{"\x00", 0, "", 1, 0, 0},
		{"\x80\x80\x80\x80\x00", 0, "", 5, 0, 0},
		{"\x81\x80\x80\x80\x00a", 0, "a", 6, 0, 0},
		{"\x81\x80\x80\x80\x80\x00a", 0, "", 0, form, form},
		// places in the midst, at the last byte, at the very end
		{"x\x02\u00a2y", 1, "\u00a2", 4, 0, 0},
		{"\xff\xff\x01\xff", 2, "\xff", 4, 0, form},
		{"x\x00", 1, "", 2, 0, 0},
		{"x\x01", 1, "", 0, form, form},
		{"x", 1, "", 0, form, form},
		{"", 0, "", 0, form, form},
		// one byte too few; many
		{"\x7f" + long, 0, long, 128, 0, 0},
		{"\x7f" + long[1:], 0, "", 0, form, form},
		{"\xac\x02" + longer, 0, longer, 302, 0, 0},
		{"\xac\x02" + longer[1:], 0, "", 0, form, form},
		{"\xff\xff\xff\xff\x0f", 0, "", 0, form, form},
		{"\xff\xff\xff\xff\x07abc", 0, "", 0, form, form},
		{"\x80\x80\x80\x80\x08abc", 0, "", 0, form, form},
		// numbers that cannot be read
		{"\x80", 0, "", 0, form, form},
		{"\xff\xff\xff\xff\x1f", 0, "", 0, form, form},
		{"\x80\x80\x80\x80\x10", 0, "", 0, form, form},
		// places that may not be
		{"", 1, "", 0, api.ErrArg, api.ErrArg},
		{"", -1, "", 0, api.ErrArg, api.ErrArg},
		{"\x00\x00", 3, "", 0, api.ErrArg, api.ErrArg},
		{"\x00\x00", -1, "", 0, api.ErrArg, api.ErrArg},
		{"\x00\x00", math.MaxInt, "", 0, api.ErrArg, api.ErrArg},
		{"\x00\x00", math.MinInt, "", 0, api.ErrArg, api.ErrArg},
	}
}

// P2.2: the document's examples, edges and wrong inputs, by hand.
func TestRows(t *testing.T) {
	for _, c := range rowCases() {
		row, next, e := name.Row([]byte(c.b), c.at)
		if string(row) != c.row || next != c.next || e != c.eRow {
			t.Errorf("Row(%x, %d) = %x, %d, %v; want %x, %d, %v", c.b, c.at, row, next, e, c.row, c.next, c.eRow)
		}
		want, to := c.row, c.next
		if c.eName != api.OK {
			want, to = "", 0
		}
		s, next, e := name.Name([]byte(c.b), c.at)
		if s != want || next != to || e != c.eName {
			t.Errorf("Name(%x, %d) = %x, %d, %v; want %x, %d, %v", c.b, c.at, s, next, e, want, to, c.eName)
		}
	}
}

// holdRow holds Row and Name against the document's words.
func holdRow(t *testing.T, b []byte, at int) {
	t.Helper()
	n, from, err := leb.U(b, at, 32)
	if err == api.OK && n > uint64(len(b)-from) {
		err = api.ErrForm
	}
	var want []byte
	to := 0
	if err == api.OK {
		to = from + int(n)
		want = b[from:to]
	}
	if row, next, e := name.Row(b, at); !bytes.Equal(row, want) || next != to || e != err {
		t.Fatalf("Row(%x, %d) = %x, %d, %v; want %x, %d, %v", b, at, row, next, e, want, to, err)
	}
	if _, ok := asked(want); !ok {
		want, to, err = nil, 0, api.ErrForm
	}
	if s, next, e := name.Name(b, at); s != string(want) || next != to || e != err {
		t.Fatalf("Name(%x, %d) = %x, %d, %v; want %x, %d, %v", b, at, s, next, e, want, to, err)
	}
}

// P2.2: each place of rows of bytes, and those just outside of them.
func TestRowsAtEachPlace(t *testing.T) {
	for _, b := range [][]byte{
		{},
		{0x02, 0x61, 0x62, 0x00, 0x82, 0x00, 0x61, 0x62, 0x03, 0x61},
		{0x01, 0x80, 0x04, 0xf0, 0x90, 0x8d, 0x88, 0x02, 0xc2, 0xa2, 0x01, 0xe2, 0x82, 0x80, 0x00},
		append([]byte{0x80, 0x01}, bytes.Repeat([]byte{0x01}, 128)...),
		bytes.Repeat([]byte{0x05}, 20),
	} {
		for at := -2; at <= len(b)+2; at++ {
			holdRow(t, b, at)
		}
	}
}

// P2.2: every number of one and two bytes, ahead of rows of all lengths around it.
func TestRowsOfEachLength(t *testing.T) {
	for n := range 300 {
		for have := max(0, n-2); have <= n+2; have++ {
			b := append(leb.PutU(uint64(n)), bytes.Repeat([]byte{0x61}, have)...)
			holdRow(t, b, 0)
			holdRow(t, append([]byte{0xff}, b...), 1)
		}
	}
}

// P2.3: counted rows by hand.
func TestPutRow(t *testing.T) {
	for _, c := range []struct {
		b, want string
	}{
		{"", "\x00"},
		{"ab", "\x02ab"},
		{"\x80", "\x01\x80"},
		{"\u20ac", "\x03\xe2\x82\xac"},
		{strings.Repeat("x", 127), "\x7f" + strings.Repeat("x", 127)},
		{strings.Repeat("x", 128), "\x80\x01" + strings.Repeat("x", 128)},
		{strings.Repeat("x", 16383), "\xff\x7f" + strings.Repeat("x", 16383)},
		{strings.Repeat("x", 16384), "\x80\x80\x01" + strings.Repeat("x", 16384)},
	} {
		if b := name.PutRow([]byte(c.b)); string(b) != c.want {
			t.Errorf("PutRow(%x) = %x; want %x", c.b, b, c.want)
		}
	}
	if b := name.PutRow(nil); string(b) != "\x00" {
		t.Errorf("PutRow(nil) = %x", b)
	}
}

// P2.3: what is put is read, whatever is ahead of it and behind.
func TestPutRowIsRead(t *testing.T) {
	for n := range 400 {
		b := bytes.Repeat([]byte{byte(n)}, n)
		put := name.PutRow(b)
		if len(put) != leb.LenU(uint64(n))+n {
			t.Fatalf("PutRow of %d bytes has %d", n, len(put))
		}
		whole := bytes.Join([][]byte{{0x80}, put, {0x05}}, nil)
		row, next, e := name.Row(whole, 1)
		if !bytes.Equal(row, b) || next != 1+len(put) || e != api.OK {
			t.Fatalf("Row of PutRow of %d bytes = %x, %d, %v", n, row, next, e)
		}
	}
}

// texts: texts of letters of all lengths, the empty one too.
func texts() []string {
	l := []string{"", "\x00", "jacquard", "\u00a2\u20ac\U00010348", "\ufffd", "\ud7ff\ue000", strings.Repeat("\U0010ffff", 50)}
	for r := rune(1); r < 0x110000; r = r*3/2 + 1 {
		if isLetter(r) {
			l = append(l, string([]rune{r, 0x61, r}))
		}
	}
	return l
}

// P2.4: Letters and Put turn each other round; two texts, one behind the other, are one.
func TestWhatFollows(t *testing.T) {
	for _, a := range texts() {
		la, e := name.Letters([]byte(a))
		if e != api.OK {
			t.Fatalf("Letters(%x) = %v", a, e)
		}
		if back, e := name.Put(la); string(back) != a || e != api.OK {
			t.Fatalf("Put(%x) = %x, %v; want %x", la, back, e, a)
		}
		for _, b := range texts() {
			both := []byte(a + b)
			lb, _ := name.Letters([]byte(b))
			want := slices.Concat(la, lb)
			if l, e := name.Letters(both); !name.Is(both) || !slices.Equal(l, want) || e != api.OK {
				t.Fatalf("Letters(%x) = %x, %v; want %x", both, l, e, want)
			}
			if put, e := name.Put(want); !bytes.Equal(put, both) || e != api.OK {
				t.Fatalf("Put(%x) = %x, %v; want %x", want, put, e, both)
			}
		}
	}
}

// Rule 5: what is handed in stays as it is, the room behind its end too, which is not read either.
func TestHandedInStays(t *testing.T) {
	whole := []byte("\x02\u00a2\x03\u20ac\x01a\x00")
	kept := bytes.Clone(whole)
	for to := range whole {
		b := whole[:to]
		name.Is(b)
		name.Letters(b)
		name.PutRow(b)
		for at := -1; at <= to+1; at++ {
			holdRow(t, b, at)
		}
	}
	if !bytes.Equal(whole, kept) {
		t.Errorf("changed to %x", whole)
	}
	if name.Is([]byte("\u20ac")[:2]) {
		t.Error("Is reads behind the end")
	}
	letters := []rune{0x61, 0x20ac, 0x62, -1}
	if b, e := name.Put(letters[:2]); string(b) != "a\u20ac" || e != api.OK {
		t.Errorf("Put = %x, %v", b, e)
	}
	name.Put(letters)
	if !slices.Equal(letters, []rune{0x61, 0x20ac, 0x62, -1}) {
		t.Errorf("changed to %x", letters)
	}
}

// Rule 5: what is answered is new memory: writing to all of it, its room too, changes neither an argument nor another answer.
func TestAnsweredIsNew(t *testing.T) {
	text := []byte("ab\u20ac")
	counted := append([]byte{byte(len(text))}, text...)
	letters := []rune{0x61, 0x62, 0x20ac}
	for range 2 {
		l, _ := name.Letters(text)
		b, _ := name.Put(letters)
		row, _, _ := name.Row(counted, 0)
		put := name.PutRow(text)
		s, _, _ := name.Name(counted, 0)
		if !slices.Equal(l, letters) || !bytes.Equal(b, text) || !bytes.Equal(row, text) || !bytes.Equal(put, counted) || s != string(text) {
			t.Fatalf("answers: %x, %x, %x, %x, %x", l, b, row, put, s)
		}
		clear(l[:cap(l)])
		clear(b[:cap(b)])
		clear(row[:cap(row)])
		clear(put[:cap(put)])
	}
	s, _, _ := name.Name(counted, 0)
	clear(counted)
	if s != "ab\u20ac" {
		t.Errorf("Name's answer became %x", s)
	}
	empty := []byte{0, 9, 9}
	row, next, e := name.Row(empty, 0)
	if len(row) != 0 || next != 1 || e != api.OK {
		t.Errorf("Row = %x, %d, %v", row, next, e)
	}
	if grown := append(row, 7); grown[0] != 7 || !bytes.Equal(empty, []byte{0, 9, 9}) {
		t.Errorf("an empty row has room in its argument: %x", empty)
	}
}
