package rights_test

import (
	"bytes"
	"encoding/binary"
	"math"
	"math/rand"
	"slices"
	"testing"

	"headend/api"
	"headend/rights"
)

func TestCrash(t *testing.T) { // P6.6
	r := rand.New(rand.NewSource(22))
	size := func(f api.File) int {
		n := len(f.Bytes)
		return pick(r, 0, n, r.Intn(n+1), f.Safe, f.Safe-1, f.Safe+1, n+1, -1, 4096, math.MaxInt, math.MinInt)
	}
	left := func(f api.File, n int) []byte {
		for n < f.Safe {
			n = f.Safe
		}
		for n > len(f.Bytes) {
			n = len(f.Bytes)
		}
		return f.Bytes[:n]
	}
	for range 3000 {
		o := someOffice(r)
		a, b, c := size(o.Shots[0]), size(o.Shots[1]), size(o.Log)
		want := api.Disk{Shots: [2][]byte{left(o.Shots[0], a), left(o.Shots[1], b)}, Log: left(o.Log, c)}
		if d, e := rights.Crash(o, a, b, c); e != api.OK || !isSameDisk(d, want) {
			t.Fatalf("%d, %d, %d: %v, %+v with %+v", a, b, c, e, d, o)
		}
	}
}

// readShot follows the definition of a snapshot; its books may be any.
func readShot(x []byte) (b api.Books, generation int, is bool) {
	if len(x) < 28 || binary.BigEndian.Uint32(x[8:]) != uint32(len(x)-28) || !bytes.Equal(hash(x[:len(x)-16]), x[len(x)-16:]) {
		return b, 0, false
	}
	number := binary.BigEndian.Uint64(x)
	b, e := rights.DecodeBooks(x[12 : len(x)-16])
	return b, int(number), e == api.OK && number < 1<<40
}

// recovered follows the definition of recovering.
func recovered(d api.Disk) api.Office {
	o := api.Office{Shots: [2]api.File{safeFile(d.Shots[0]), safeFile(d.Shots[1])}}
	found := false
	for _, x := range d.Shots {
		if b, generation, is := readShot(x); is && (!found || generation > o.Count) {
			o.Books, o.Count, found = b, generation, true
		}
	}
	var l []api.Deal
	for rest := d.Log[min(8, len(d.Log)):]; len(rest) >= 43 && bytes.HasPrefix(d.Log, wide(nil, o.Count)); rest = rest[43:] {
		deal, e := rights.DecodeDeal(rest[:27])
		if e != api.OK || !bytes.HasPrefix(d.Log, journalBytes(o.Count, append(l, deal)...)) {
			break
		}
		b, e := carried(o.Books, deal)
		if e != api.OK {
			break
		}
		o.Books, l = b, append(l, deal)
	}
	o.Log = safeFile(journalBytes(o.Count, l...))
	return o
}

// someDisk returns files that are whole, or almost.
func someDisk(r *rand.Rand) api.Disk {
	generation := pick(r, 0, 1, 2, 3, api.MaxTick-2)
	shot := func() []byte {
		if r.Intn(5) == 0 {
			return nil
		}
		x := snapshotBytes(pick(r, someBooks(r), smallBooks()), generation+r.Intn(2))
		return spoiled(r, x)
	}
	d := api.Disk{Shots: [2][]byte{shot(), shot()}}
	b := recovered(d).Books
	var l []api.Deal
	for range r.Intn(40) {
		deal := someDeal(r)
		n, e := carried(b, deal)
		if e == api.OK || r.Intn(20) == 0 {
			l = append(l, deal)
		}
		b = n
	}
	d.Log = spoiled(r, journalBytes(recovered(d).Count+pick(r, 0, 0, 0, 0, 1), l...))
	return d
}

// spoiled returns the bytes of a file, or some that are almost the same.
func spoiled(r *rand.Rand, x []byte) []byte {
	switch r.Intn(8) {
	case 0:
		return x[:r.Intn(len(x)+1)]
	case 1:
		x[r.Intn(len(x))] ^= 1 << r.Intn(8)
	case 2:
		return append(x, someBytes(r, pick(r, 1, 16, 27, 42, 43))...)
	}
	return x
}

func TestRecover(t *testing.T) { // P6.6: against the second writing of the definition
	r := rand.New(rand.NewSource(23))
	kept := 0
	for range 4000 {
		d := someDisk(r)
		if max(len(d.Shots[0]), len(d.Shots[1]), len(d.Log)) > 4096 {
			continue
		}
		want := recovered(d)
		got, e := rights.Recover(d)
		if e != api.OK || !isSameOffice(got, want) {
			t.Fatalf("%+v: %v, %+v instead of %+v", d, e, got, want)
		}
		if !isValidOffice(got) {
			t.Fatalf("not valid: %+v", got)
		}
		kept += len(got.Log.Bytes) / 43
	}
	if kept < 10000 {
		t.Error("too few records:", kept)
	}
}

func TestRecoverShots(t *testing.T) { // P6.6: which snapshot is taken
	a, b := smallBooks(), fullBooks()
	wrong := smallBooks()
	wrong.Credits[1] = 100001
	long := append(snapshotBytes(b, 5), 0)
	other := snapshotBytes(b, 5)
	other[len(other)-1] ^= 1
	size := snapshotBytes(b, 5)
	size[11]++
	copy(size[len(size)-16:], hash(size[:len(size)-16]))
	for name, x := range map[string]struct {
		shots [2][]byte
		books api.Books
		count int
	}{
		"none":                  {[2][]byte{}, api.Books{}, 0},
		"first":                 {[2][]byte{snapshotBytes(a, 5)}, a, 5},
		"second":                {[2][]byte{nil, snapshotBytes(a, 5)}, a, 5},
		"greater first":         {[2][]byte{snapshotBytes(a, 5), snapshotBytes(b, 4)}, a, 5},
		"greater second":        {[2][]byte{snapshotBytes(a, 5), snapshotBytes(b, 6)}, b, 6},
		"equal":                 {[2][]byte{snapshotBytes(a, 5), snapshotBytes(b, 5)}, a, 5},
		"both 0":                {[2][]byte{snapshotBytes(b, 0), snapshotBytes(a, 0)}, b, 0},
		"second 0":              {[2][]byte{nil, snapshotBytes(a, 0)}, a, 0},
		"last generation":       {[2][]byte{snapshotBytes(a, 5), snapshotBytes(b, api.MaxTick-1)}, b, api.MaxTick - 1},
		"generation too large":  {[2][]byte{snapshotBytes(a, 5), snapshotBytes(b, api.MaxTick)}, a, 5},
		"generation of 64 bits": {[2][]byte{snapshotBytes(a, -1), snapshotBytes(b, 3)}, b, 3},
		"books not valid":       {[2][]byte{snapshotBytes(a, 5), snapshotBytes(wrong, 6)}, a, 5},
		"one byte more":         {[2][]byte{long, snapshotBytes(a, 4)}, a, 4},
		"wrong hash":            {[2][]byte{other, snapshotBytes(a, 4)}, a, 4},
		"wrong size":            {[2][]byte{size, snapshotBytes(a, 4)}, a, 4},
		"one byte less":         {[2][]byte{long[:len(long)-2], snapshotBytes(a, 4)}, a, 4},
		"no bytes of books":     {[2][]byte{long[:12], snapshotBytes(a, 4)}, a, 4},
		"wrong hash alone":      {[2][]byte{other, nil}, api.Books{}, 0},
		"wrong hash of both":    {[2][]byte{nil, other}, api.Books{}, 0},
		"half a number":         {[2][]byte{long[:4], nil}, api.Books{}, 0},
	} {
		d := api.Disk{Shots: x.shots}
		want := api.Office{Books: x.books, Count: x.count, Shots: [2]api.File{safeFile(x.shots[0]), safeFile(x.shots[1])}}
		want.Log = safeFile(wide(nil, x.count))
		if o, e := rights.Recover(d); e != api.OK || !isSameOffice(o, want) {
			t.Errorf("%s: %v, %+v", name, e, o)
		}
	}
}

func TestRecoverLog(t *testing.T) { // P6.6: which records are carried out
	fill := func(n int) api.Deal { return api.Deal{Kind: api.DealFill, Account: 1, Amount: n} }
	good := journalBytes(5, fill(1), fill(2), fill(4))
	flipped := func(at int) []byte {
		x := slices.Clone(good)
		x[at] ^= 1
		return x
	}
	remarked := slices.Concat(journalBytes(5, fill(1)), journalBytes(5, fill(2))[8:], journalBytes(5, fill(4))[8:])
	for name, x := range map[string]struct {
		log     []byte
		credits int
	}{
		"all":                {good, 7},
		"no bytes":           {nil, 0},
		"half a head":        {good[:7], 0},
		"a head":             {good[:8], 0},
		"another generation": {journalBytes(4, fill(1)), 0},
		"a later generation": {journalBytes(6, fill(1)), 0},
		"half a deal":        {good[:8+43+20], 1},
		"a deal":             {good[:8+43+27], 1},
		"half a mark":        {good[:8+2*43-1], 1},
		"two records":        {good[:8+2*43], 3},
		"wrong deal":         {flipped(8 + 43 + 23), 1},
		"wrong mark":         {flipped(8 + 2*43 - 1), 1},
		"wrong first mark":   {flipped(8 + 27), 0},
		"wrong last mark":    {flipped(8 + 3*43 - 1), 3},
		"marks of others":    {remarked, 1},
		"deal not valid":     {journalBytes(5, fill(1), fill(0), fill(4)), 1},
		"deal with an error": {journalBytes(5, fill(1), fill(100000), fill(4)), 1},
		"error at first":     {journalBytes(5, api.Deal{Kind: api.DealKill}, fill(4)), 0},
		"bytes behind":       {append(slices.Clone(good), good[8:]...), 7},
	} {
		d := api.Disk{Shots: [2][]byte{nil, snapshotBytes(api.Books{}, 5)}, Log: x.log}
		records := []int{0: 0, 1: 1, 3: 2, 7: 3}[x.credits]
		o, e := rights.Recover(d)
		if e != api.OK || o.Books.Credits[1] != x.credits || o.Count != 5 {
			t.Errorf("%s: %v, %+v", name, e, o)
		}
		if !isSameFile(o.Log, safeFile(good[:8+43*records])) {
			t.Errorf("%s: %x", name, o.Log.Bytes)
		}
	}
}

func TestRecoverErrors(t *testing.T) { // P6.6
	for i := range 3 {
		for _, n := range []int{4096, 4097, 100000} {
			var d api.Disk
			*[]*[]byte{&d.Shots[0], &d.Shots[1], &d.Log}[i] = make([]byte, n)
			want := api.ErrMany
			if n == 4096 {
				want = api.OK
			}
			o, e := rights.Recover(d)
			if e != want || e != api.OK && !isSameOffice(o, api.Office{}) {
				t.Errorf("%d bytes of file %d: %v, %+v", n, i, e, o)
			}
			if e == api.OK && (len(o.Log.Bytes) != 8 || !isSameBooks(o.Books, api.Books{})) {
				t.Errorf("%+v", o)
			}
		}
	}
}
