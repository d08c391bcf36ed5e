package rights_test

import (
	"math/rand"
	"slices"
	"testing"

	"headend/api"
	"headend/rights"
)

func TestMainCard(t *testing.T) { // P6.3
	r := rand.New(rand.NewSource(7))
	counts := map[api.Errno]int{}
	for range 2000 {
		b := someBooks(r)
		for home := range 11 {
			want, wantError := 0, api.ErrArg
			if in(home, 1, 8) {
				wantError = api.ErrNone
			}
			for _, c := range slices.Backward(b.Cards) {
				if c.Home == home && home != 0 {
					want, wantError = c.Receiver, api.OK
				}
			}
			counts[wantError]++
			if u, e := rights.Main(b, home); u != want || e != wantError {
				t.Fatalf("home %d: %d, %v with %+v", home, u, e, b)
			}
		}
	}
	if counts[api.OK] < 100 {
		t.Error(counts)
	}
	for _, n := range append(wild(), 0, 9) {
		if u, e := rights.Main(smallBooks(), n); u != 0 || e != api.ErrArg {
			t.Errorf("home %d: %d, %v", n, u, e)
		}
	}
	wrong := smallBooks()
	wrong.Cards[0].Met = 1
	if u, e := rights.Main(wrong, 9); u != 0 || e != api.ErrBad {
		t.Error(u, e)
	}
}

func TestMainIsFirst(t *testing.T) { // P6.3: the first card in the books is the main one, when it joins later as well
	b := smallBooks()
	b = apply(t, b, api.Deal{Kind: api.DealHome, Receiver: 4, Amount: 1})
	if u := must[int](t)(rights.Main(b, 1)); u != 4 {
		t.Error(u)
	}
	b = apply(t, b, api.Deal{Kind: api.DealKill, Receiver: 4}, api.Deal{Kind: api.DealMove, Receiver: 5, Account: 2})
	if u := must[int](t)(rights.Main(b, 1)); u != 6 {
		t.Error(u)
	}
}

// isEntitled returns the result of a call without errors.
func isEntitled(t *testing.T, b api.Books, u, product, epoch int) bool {
	t.Helper()
	return must[bool](t)(rights.Entitled(b, u, product, epoch))
}

func TestEntitled(t *testing.T) { // P6.3: against the second writing of the definition
	r := rand.New(rand.NewSource(8))
	counts := map[bool]int{}
	for range 4000 {
		b := someBooks(r)
		for product := range b.Products {
			epoch := someEpoch(r)
			for u := range api.MaxReceiver {
				want := mayWatch(b, u, product, epoch)
				counts[want]++
				if is, e := rights.Entitled(b, u, product, epoch); is != want || e != api.OK {
					t.Fatalf("%d, %d, %d: %v, %v with %+v", u, product, epoch, is, e, b)
				}
			}
			depth := r.Intn(7)
			var want []int
			for u := range 1 << depth {
				if !mayWatch(b, u, product, epoch) {
					want = append(want, u)
				}
			}
			if l, e := rights.Revoked(b, product, epoch, depth); !slices.Equal(l, want) || e != api.OK {
				t.Fatalf("%d, %d, %d: %v, %v with %+v", product, epoch, depth, l, e, b)
			}
		}
	}
	if counts[true] < 1000 {
		t.Error(counts)
	}
}

func TestEntitledConditions(t *testing.T) { // P6.3: each condition alone
	good := smallBooks()
	good.Cards = append(good.Cards, api.Card{Receiver: 8, Account: 2, Region: 7, Level: 3, Home: 1, Met: api.MaxTick + 1})
	good.Products[0].Regions = 0b10000010
	good.Grants = append(good.Grants, api.Grant{Account: 2, Product: 0, From: 20, To: api.MaxTick})
	for name, x := range map[string]struct {
		change            func(b *api.Books)
		u, product, epoch int
		want              bool
	}{
		"good":                   {func(*api.Books) {}, 4, 0, 5, true},
		"last epoch":             {func(*api.Books) {}, 4, 0, 7, true},
		"before the grant":       {func(*api.Books) {}, 4, 0, 4, false},
		"after the grant":        {func(*api.Books) {}, 4, 0, 8, false},
		"last epoch of all":      {func(*api.Books) {}, 4, 0, api.MaxTick - 1, true},
		"no grant may have it":   {func(*api.Books) {}, 4, 0, api.MaxTick, false},
		"no card":                {func(*api.Books) {}, 3, 0, 5, false},
		"dead":                   {func(b *api.Books) { b.Cards[0].Dead = true }, 4, 0, 5, false},
		"dead before":            {func(*api.Books) {}, 7, 0, 5, false},
		"region":                 {func(b *api.Books) { b.Cards[0].Region = 2 }, 4, 0, 5, false},
		"last region":            {func(b *api.Books) { b.Cards[0].Region = 7 }, 4, 0, 5, true},
		"first region":           {func(b *api.Books) { b.Cards[0].Region = 0 }, 4, 0, 5, false},
		"level":                  {func(b *api.Books) { b.Cards[0].Level = 0 }, 4, 0, 5, false},
		"higher level":           {func(b *api.Books) { b.Cards[0].Level = 3 }, 4, 0, 5, true},
		"account":                {func(b *api.Books) { b.Cards[0].Account = 3 }, 4, 0, 5, false},
		"sale":                   {func(*api.Books) {}, 4, 1, 4, true},
		"sale of another epoch":  {func(*api.Books) {}, 4, 1, 5, false},
		"sale to another one":    {func(b *api.Books) { b.Sales[0].Account = 3 }, 4, 1, 4, false},
		"sale in the last epoch": {func(b *api.Books) { b.Sales[0].Epoch = api.MaxTick }, 4, 1, api.MaxTick, true},
		"main card":              {func(*api.Books) {}, 5, 0, 7, true},
		"main card, not met":     {func(b *api.Books) { b.Cards[1].Met = 0 }, 5, 0, api.MaxTick - 1, true},
		"main card, met before":  {func(b *api.Books) { b.Cards[1].Met = 1 }, 5, 0, api.MaxTick - 1, true},
		"met in 2, up to 5":      {func(*api.Books) {}, 6, 0, 5, true},
		"met in 2, not in 6":     {func(*api.Books) {}, 6, 0, 6, false},
		"never met":              {func(b *api.Books) { b.Cards[2].Met = 0 }, 6, 0, 5, false},
		"never met, first epoch": {func(b *api.Books) { b.Cards[2].Met, b.Grants[0].From = 0, 0 }, 6, 0, 0, false},
		"met in 0, up to 3":      {func(b *api.Books) { b.Cards[2].Met, b.Grants[0].From = 1, 0 }, 6, 0, 3, true},
		"met in 0, not in 4":     {func(b *api.Books) { b.Cards[2].Met, b.Grants[0].From = 1, 0 }, 6, 0, 4, false},
		"met at the end":         {func(*api.Books) {}, 8, 0, api.MaxTick - 1, true},
		"met at the end, before": {func(*api.Books) {}, 8, 0, 5, true},
	} {
		b := cloneBooks(good)
		x.change(&b)
		if is := isEntitled(t, b, x.u, x.product, x.epoch); is != x.want {
			t.Errorf("%s: %v", name, is)
		}
	}
}

func TestEntitledErrors(t *testing.T) { // P6.3, R1, R5
	b, wrong := smallBooks(), smallBooks()
	wrong.Credits[0] = -1
	type asked struct {
		b                       api.Books
		receiver, product, time int
		e                       api.Errno
	}
	l := []asked{
		{wrong, -1, 9, -1, api.ErrBad},
		{b, 64, 0, 0, api.ErrArg}, {b, 64, 9, 0, api.ErrArg}, {b, 0, 9, api.MaxTick + 1, api.ErrArg},
		{b, 0, 2, 0, api.ErrNone}, {b, 0, -1, 0, api.ErrNone}, {b, 63, 2, api.MaxTick, api.ErrNone}, {api.Books{}, 0, 0, 0, api.ErrNone},
	}
	for _, n := range wild() {
		l = append(l, asked{b, n, 0, 0, api.ErrArg}, asked{b, 0, 0, n, api.ErrArg}, asked{b, 0, n, 0, api.ErrNone})
	}
	for _, x := range l {
		if is, e := rights.Entitled(x.b, x.receiver, x.product, x.time); is || e != x.e {
			t.Errorf("%d, %d, %d: %v, %v instead of %v", x.receiver, x.product, x.time, is, e, x.e)
		}
		depth := x.receiver
		if depth == 64 || depth == 63 {
			depth -= 57
		}
		if l, e := rights.Revoked(x.b, x.product, x.time, depth); len(l) > 0 || e != x.e {
			t.Errorf("%d, %d, depth %d: %v, %v instead of %v", x.product, x.time, depth, l, e, x.e)
		}
	}
	if l, e := rights.Revoked(b, 0, 0, 6); len(l) != 64 || e != api.OK {
		t.Error(l, e)
	}
}

func TestCredits(t *testing.T) { // P6.7: what was filled in is there, or was paid
	r := rand.New(rand.NewSource(9))
	bought := 0
	for range 200 {
		b := api.Books{}
		filled := [api.MaxAccounts]int{}
		for range 150 {
			d := someDeal(r)
			if r.Intn(3) == 0 {
				d = pick(r, api.Deal{Kind: 7, Account: r.Intn(4), Amount: 1 + r.Intn(300)}, api.Deal{Kind: 8, Account: r.Intn(4), Item: r.Intn(8), From: r.Intn(5)})
			}
			n, e := rights.Apply(b, d)
			if e != api.OK {
				continue
			}
			if b = n; d.Kind == api.DealFill {
				filled[d.Account] += d.Amount
			}
			sums := b.Credits
			for _, s := range b.Sales {
				sums[s.Account] += s.Price
			}
			if sums != filled {
				t.Fatalf("%v instead of %v after %+v", sums, filled, d)
			}
		}
		bought += len(b.Sales)
	}
	if bought < 200 {
		t.Error("too few sales:", bought)
	}
}

func TestOthersAreLeftAlone(t *testing.T) { // P6.7: a deal touches only the accounts that it names
	r := rand.New(rand.NewSource(10))
	touched := 0
	for range 3000 {
		b, d := someBooks(r), someDeal(r)
		n, e := rights.Apply(b, d)
		if e != api.OK || d.Kind == api.DealProduct {
			continue
		}
		named := map[int]bool{}
		if slices.Contains([]uint8{2, 3, 5, 6, 7, 8, 9}, d.Kind) {
			named[d.Account] = true
		}
		for _, c := range b.Cards {
			if c.Receiver == d.Receiver && slices.Contains([]uint8{3, 4, 10, 11, 12}, d.Kind) {
				named[c.Account] = true
			}
		}
		for _, c := range n.Cards {
			for product := range n.Products {
				for epoch := range 13 {
					was := c.Receiver != d.Receiver || d.Kind != api.DealIssue
					was = was && isEntitled(t, b, c.Receiver, product, epoch)
					if is := isEntitled(t, n, c.Receiver, product, epoch); is != was {
						touched++
						if !named[c.Account] {
							t.Fatalf("%+v: receiver %d, product %d, epoch %d", d, c.Receiver, product, epoch)
						}
					}
				}
			}
			if r.Intn(4) > 0 {
				break
			}
		}
	}
	if touched < 50 {
		t.Error("too few changes:", touched)
	}
}

func TestNewProductChangesNothing(t *testing.T) { // P6.7
	r := rand.New(rand.NewSource(11))
	for range 300 {
		b := someBooks(r)
		n, e := rights.Apply(b, api.Deal{Kind: api.DealProduct, Region: 255, View: r.Intn(2) == 0})
		if e != api.OK {
			continue
		}
		for product := range b.Products {
			for epoch := range 6 {
				old := must[[]int](t)(rights.Revoked(b, product, epoch, 6))
				if l := must[[]int](t)(rights.Revoked(n, product, epoch, 6)); !slices.Equal(l, old) {
					t.Fatalf("%v, and before %v", l, old)
				}
			}
		}
		if l := must[[]int](t)(rights.Revoked(n, len(b.Products), 0, 6)); len(l) != 64 {
			t.Fatal(l)
		}
	}
}

func TestMovedIsIssued(t *testing.T) { // P6.7: a moved card is like one that is issued to the account
	r := rand.New(rand.NewSource(12))
	entitled := 0
	for range 1500 {
		b := someBooks(r)
		account := r.Intn(4)
		for _, c := range b.Cards {
			moved, e := rights.Apply(b, api.Deal{Kind: api.DealMove, Receiver: c.Receiver, Account: account})
			if e != api.OK {
				continue
			}
			free := freeReceivers(b)
			if len(free) == 0 {
				continue
			}
			u := free[0]
			issued := apply(t, b, api.Deal{Kind: api.DealIssue, Receiver: u, Account: account, Region: c.Region, Level: c.Level})
			for product := range b.Products {
				epoch := someEpoch(r)
				is := isEntitled(t, moved, c.Receiver, product, epoch)
				if is != isEntitled(t, issued, u, product, epoch) {
					t.Fatalf("%+v to %d: product %d, epoch %d", c, account, product, epoch)
				}
				if is {
					entitled++
				}
			}
		}
	}
	if entitled < 100 {
		t.Error("too few are entitled:", entitled)
	}
}

// freeReceivers returns the receivers that have no card.
func freeReceivers(b api.Books) []int {
	var l []int
	for u := range api.MaxReceiver {
		if !slices.ContainsFunc(b.Cards, func(c api.Card) bool { return c.Receiver == u }) {
			l = append(l, u)
		}
	}
	return l
}
