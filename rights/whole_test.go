package rights_test

import (
	"math/rand"
	"testing"

	"headend/api"
	"headend/rights"
)

// history is an office, and what a crash may leave of it: its books after each deal, and how many deals are kept for certain.
type history struct {
	office api.Office
	states []api.Books
	kept   int
}

func newHistory() *history {
	return &history{office: rights.Open(), states: []api.Books{{}}}
}

// step does something to the office, and reports whether it did.
func (h *history) step(t *testing.T, r *rand.Rand) bool {
	t.Helper()
	last := len(h.states) - 1
	switch n := r.Intn(20); {
	case n == 0:
		o, e := rights.Sync(h.office)
		if e == api.OK {
			h.office, h.kept = o, last
		}
		return e == api.OK
	case n < 5:
		second := h.office.Step == 1
		o := must[api.Office](t)(rights.Turn(h.office))
		if h.office = o; second {
			h.kept = last
		}
		return true
	}
	d := someDeal(r)
	o, e := rights.Do(h.office, d)
	if e != api.OK {
		return false
	}
	n, _ := carried(h.states[last], d)
	h.office, h.states = o, append(h.states, n)
	return true
}

// crash lets the office crash, and checks what is recovered.
func (h *history) crash(t *testing.T, shot0, shot1, log int) {
	t.Helper()
	d := must[api.Disk](t)(rights.Crash(h.office, shot0, shot1, log))
	o := must[api.Office](t)(rights.Recover(d))
	n := len(h.states) - 1
	for n > h.kept && !isSameBooks(h.states[n], o.Books) {
		n--
	}
	if !isSameBooks(h.states[n], o.Books) {
		t.Fatalf("after %d, %d, %d: %+v was lost: %+v", shot0, shot1, log, h.states[h.kept], o.Books)
	}
	if !isValidOffice(o) {
		t.Fatalf("not valid: %+v", o)
	}
	again := must[api.Disk](t)(rights.Crash(o, 0, 0, 0))
	if o2, e := rights.Recover(again); e != api.OK || !isSameOffice(o2, o) {
		t.Fatalf("recovered again: %+v, %v instead of %+v", o2, e, o)
	}
	*h = history{o, h.states[:n+1], n}
}

func TestHistories(t *testing.T) { // P6.8
	r := rand.New(rand.NewSource(24))
	crashes, deals := 0, 0
	for range 150 {
		h := newHistory()
		for range 120 {
			before := h.office
			if !h.step(t, r) && !isSameOffice(h.office, before) {
				t.Fatal("an error changed the office")
			}
			if !isSameBooks(h.office.Books, h.states[len(h.states)-1]) {
				t.Fatalf("%+v", h.office.Books)
			}
			if r.Intn(25) == 0 {
				size := func() int { return pick(r, -1, 0, r.Intn(300), r.Intn(4097), 5000) }
				h.crash(t, size(), size(), size())
				crashes++
			}
		}
		deals += len(h.states)
	}
	if crashes < 300 || deals < 1500 {
		t.Error(crashes, deals)
	}
}

func TestNothingLost(t *testing.T) { // P6.8: if no bytes are lost, no deals are
	r := rand.New(rand.NewSource(25))
	for range 60 {
		h := newHistory()
		for range 80 {
			h.step(t, r)
			if r.Intn(20) == 0 {
				last := len(h.states) - 1
				h.kept = last
				h.crash(t, 5000, 5000, 5000)
			}
		}
	}
}

func TestAllCrashes(t *testing.T) { // P6.8: each number of bytes, at each time of a turn
	fill := api.Deal{Kind: api.DealFill, Account: 1, Amount: 10}
	h := newHistory()
	act := func(f func(o api.Office) (api.Office, api.Errno), keeps bool) {
		h.office = must[api.Office](t)(f(h.office))
		if keeps {
			h.kept = len(h.states) - 1
		}
	}
	deal := func() {
		n := apply(t, h.states[len(h.states)-1], fill)
		h.office, h.states = do(t, h.office, fill), append(h.states, n)
	}
	try := func() {
		sizes := func(f api.File) int { return len(f.Bytes) - f.Safe + 1 }
		for a := range sizes(h.office.Shots[0]) {
			for b := range sizes(h.office.Shots[1]) {
				for c := range sizes(h.office.Log) {
					copied := *h
					copied.crash(t, h.office.Shots[0].Safe+a, h.office.Shots[1].Safe+b, h.office.Log.Safe+c)
				}
			}
		}
	}
	for range 3 {
		deal()
		act(rights.Sync, true)
		deal()
		try()
		act(rights.Turn, false)
		try()
		act(rights.Turn, true)
		try()
		act(rights.Turn, false)
		try()
		act(rights.Turn, false)
		try()
	}
}

func TestBrokenTurn(t *testing.T) { // P6.8: a crash between the steps of a turn leaves both the old and the new one
	fill := api.Deal{Kind: api.DealFill, Account: 1, Amount: 10}
	o := do(t, rights.Open(), fill, fill)
	for step := range 4 {
		for _, all := range []bool{false, true} {
			size := 0
			if all {
				size = 5000
			}
			got := must[api.Office](t)(rights.Recover(must[api.Disk](t)(rights.Crash(o, size, size, size))))
			want := 0
			if all || step > 1 {
				want = 20
			}
			if got.Books.Credits[1] != want || got.Step != 0 {
				t.Errorf("step %d, all %v: %+v", step, all, got)
			}
		}
		o = must[api.Office](t)(rights.Turn(o))
	}
}
