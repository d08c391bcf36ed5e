package rights_test

import (
	"encoding/binary"
	"math"
	"math/rand"
	"slices"
	"testing"

	"headend/api"
	"headend/cipher"
	"headend/rights"
)

// must returns the result of a call that has no error.
func must[T any](t *testing.T) func(result T, e api.Errno) T {
	t.Helper()
	return func(result T, e api.Errno) T {
		t.Helper()
		if e != api.OK {
			t.Fatal("unexpected error:", e)
		}
		return result
	}
}

// wild returns numbers that nothing in the books may be.
func wild() []int {
	return []int{
		-1, -2, -64, -1000, math.MinInt, math.MinInt + 1, math.MinInt32, -1 << 33, -1 << 40,
		api.MaxTick + 2, api.MaxTick + 3, 1 << 41, math.MaxInt, math.MaxInt - 1, 1 << 62, 1<<62 + 1,
	}
}

// edges returns numbers at the edges of all ranges.
func edges() []int {
	l := append(wild(), api.MaxTick-1, api.MaxTick, api.MaxTick+1)
	for _, n := range []int{0, 3, 4, 7, 8, 15, 16, 63, 64, 100, 255, 256, 1000, 65536, 100000, 1 << 32} {
		l = append(l, n-1, n, n+1)
	}
	return l
}

func pick[T any](r *rand.Rand, l ...T) T { return l[r.Intn(len(l))] }

func chance(r *rand.Rand, percent int) bool { return r.Intn(100) < percent }

// someEpoch returns an epoch, often a small one.
func someEpoch(r *rand.Rand) int {
	if chance(r, 5) {
		return pick(r, api.MaxTick, api.MaxTick-1, api.MaxTick-4, r.Intn(api.MaxTick))
	}
	return r.Intn(12)
}

// someAccount returns an account, often one of few.
func someAccount(r *rand.Rand) int {
	if chance(r, 10) {
		return r.Intn(api.MaxAccounts)
	}
	return r.Intn(4)
}

// someSize returns the size of a list of at most so many, often a small or the greatest one.
func someSize(r *rand.Rand, most int) int {
	if chance(r, 10) {
		return most
	}
	return r.Intn(min(most, 10) + 1)
}

// someBooks returns books that are valid, and that no deals need to have made.
func someBooks(r *rand.Rand) api.Books {
	var b api.Books
	for range someSize(r, api.MaxProducts) {
		p := api.Product{Regions: uint8(r.Intn(256)), Level: uint8(r.Intn(3)), Price: r.Intn(200), View: chance(r, 50)}
		if chance(r, 10) {
			p.Level, p.Price = 3, api.MaxPrice
		}
		b.Products = append(b.Products, p)
	}
	b.Cards = someCards(r)
	for i := range b.Products {
		for range someSize(r, 8) {
			if b.Products[i].View {
				b.Sales = append(b.Sales, api.Sale{Account: someAccount(r), Product: i, Epoch: someEpoch(r), Price: r.Intn(1001)})
				continue
			}
			from := r.Intn(10)
			g := api.Grant{Account: someAccount(r), Product: i, From: from, To: from + 1 + r.Intn(6)}
			if chance(r, 5) {
				g.From, g.To = pick(r, 0, 5, api.MaxTick-1), api.MaxTick
			}
			b.Grants = append(b.Grants, g)
		}
	}
	b.Sales = distinct(b.Sales)
	for range someSize(r, api.MaxLicences) {
		b.Licences = append(b.Licences, api.Licence{Account: someAccount(r), Title: r.Intn(4), Until: someEpoch(r), Plays: pick(r, 0, 1, 2, 100)})
	}
	for i := range b.Credits {
		b.Credits[i] = pick(r, 0, 1, r.Intn(300), r.Intn(api.MaxCredits+1), api.MaxCredits)
	}
	return b
}

// distinct returns the first sales of each account, product and epoch.
func distinct(l []api.Sale) []api.Sale {
	seen := map[[3]int]bool{}
	return slices.DeleteFunc(l, func(s api.Sale) bool {
		k := [3]int{s.Account, s.Product, s.Epoch}
		was := seen[k]
		seen[k] = true
		return was
	})
}

func someCards(r *rand.Rand) []api.Card {
	var l []api.Card
	owners, counts := map[int]int{}, map[int]int{}
	for _, u := range r.Perm(api.MaxReceiver)[:someSize(r, api.MaxReceiver)] {
		if chance(r, 80) {
			u %= 16
		}
		if slices.ContainsFunc(l, func(c api.Card) bool { return c.Receiver == u }) {
			continue
		}
		c := api.Card{Receiver: u, Account: someAccount(r), Region: uint8(r.Intn(8)), Level: uint8(r.Intn(4)), Dead: chance(r, 15)}
		home := 1 + r.Intn(3)
		if owner, is := owners[home]; !c.Dead && chance(r, 70) && counts[home] < api.MaxHome && (!is || owner == c.Account) {
			owners[home] = c.Account
			counts[home]++
			c.Home, c.Met = home, pick(r, 0, 1, r.Intn(10), api.MaxTick+1)
		}
		l = append(l, c)
	}
	return l
}

// someDeal returns a deal that is valid.
func someDeal(r *rand.Rand) api.Deal {
	d := api.Deal{Kind: uint8(1 + r.Intn(12))}
	receiver, account, epoch := r.Intn(16), someAccount(r), someEpoch(r)
	if chance(r, 10) {
		receiver = r.Intn(64)
	}
	switch d.Kind {
	case 1:
		d.Region, d.Level, d.Amount, d.View = uint8(r.Intn(256)), uint8(r.Intn(4)), pick(r, 0, r.Intn(100), 1000), chance(r, 50)
	case 2:
		d.Receiver, d.Account, d.Region, d.Level = receiver, account, uint8(r.Intn(8)), uint8(r.Intn(4))
	case 3:
		d.Receiver, d.Account = receiver, account
	case 4:
		d.Receiver = receiver
	case 5:
		d.Account, d.Item, d.From = account, r.Intn(8), min(epoch, api.MaxTick-1)
		d.To = min(d.From+1+r.Intn(6), api.MaxTick)
	case 6, 8:
		d.Account, d.Item, d.From = account, r.Intn(8), epoch
	case 7:
		d.Account, d.Amount = account, pick(r, 1, 50, 1+r.Intn(1000), 100000)
	case 9:
		d.Account, d.Item, d.To, d.Amount = account, r.Intn(4), epoch, pick(r, 1, 2, 100)
	case 10:
		d.Receiver, d.Item, d.From = receiver, r.Intn(4), epoch
	case 11:
		d.Receiver, d.Amount = receiver, pick(r, 0, 1, 1, 2, 3, 8)
	case 12:
		d.Receiver, d.From = receiver, epoch
	}
	return d
}

func someDeals(r *rand.Rand, n int) []api.Deal {
	l := make([]api.Deal, n)
	for i := range l {
		l[i] = someDeal(r)
	}
	return l
}

func cloneBooks(b api.Books) api.Books {
	b.Products, b.Cards = slices.Clone(b.Products), slices.Clone(b.Cards)
	b.Grants, b.Sales, b.Licences = slices.Clone(b.Grants), slices.Clone(b.Sales), slices.Clone(b.Licences)
	return b
}

func isSameBooks(a, b api.Books) bool {
	return slices.Equal(a.Products, b.Products) && slices.Equal(a.Cards, b.Cards) && slices.Equal(a.Grants, b.Grants) &&
		slices.Equal(a.Sales, b.Sales) && slices.Equal(a.Licences, b.Licences) && a.Credits == b.Credits
}

func isSameFile(a, b api.File) bool { return slices.Equal(a.Bytes, b.Bytes) && a.Safe == b.Safe }

func isSameOffice(a, b api.Office) bool {
	return isSameBooks(a.Books, b.Books) && a.Count == b.Count && a.Step == b.Step &&
		isSameFile(a.Shots[0], b.Shots[0]) && isSameFile(a.Shots[1], b.Shots[1]) && isSameFile(a.Log, b.Log)
}

func isSameDisk(a, b api.Disk) bool {
	return slices.Equal(a.Shots[0], b.Shots[0]) && slices.Equal(a.Shots[1], b.Shots[1]) && slices.Equal(a.Log, b.Log)
}

// The functions below follow the chapter's terms.

func in(n, low, high int) bool { return low <= n && n <= high }

// isValid follows the definition of valid books.
func isValid(b api.Books) bool {
	good := len(b.Products) <= 8 && len(b.Cards) <= 64 && len(b.Grants) <= 64 && len(b.Sales) <= 64 && len(b.Licences) <= 64
	for _, p := range b.Products {
		good = good && p.Level <= 3 && in(p.Price, 0, 1000)
	}
	receivers, homes := map[int]int{}, map[int][]int{}
	for _, c := range b.Cards {
		receivers[c.Receiver]++
		good = good && in(c.Receiver, 0, 63) && receivers[c.Receiver] == 1
		good = good && in(c.Account, 0, 15) && c.Region <= 7 && c.Level <= 3 && in(c.Home, 0, 8) && in(c.Met, 0, 1<<40+1)
		good = good && (c.Home != 0 || c.Met == 0) && (!c.Dead || c.Home == 0 && c.Met == 0)
		if c.Home != 0 {
			homes[c.Home] = append(homes[c.Home], c.Account)
		}
	}
	for _, accounts := range homes {
		good = good && len(accounts) <= 4 && slices.Min(accounts) == slices.Max(accounts)
	}
	for _, g := range b.Grants {
		good = good && in(g.Account, 0, 15) && in(g.Product, 0, len(b.Products)-1) && !b.Products[g.Product].View
		good = good && g.From >= 0 && g.From < g.To && g.To <= 1<<40
	}
	sales := map[[3]int]int{}
	for _, s := range b.Sales {
		sales[[3]int{s.Account, s.Product, s.Epoch}]++
		good = good && in(s.Account, 0, 15) && in(s.Product, 0, len(b.Products)-1) && b.Products[s.Product].View
		good = good && in(s.Epoch, 0, 1<<40) && in(s.Price, 0, 1000) && sales[[3]int{s.Account, s.Product, s.Epoch}] == 1
	}
	for _, l := range b.Licences {
		good = good && in(l.Account, 0, 15) && in(l.Title, 0, 15) && in(l.Until, 0, 1<<40) && in(l.Plays, 0, 100)
	}
	for _, n := range b.Credits {
		good = good && in(n, 0, 100000)
	}
	return good
}

// isValidDeal follows the table's column of fields.
func isValidDeal(d api.Deal) bool {
	rest := d
	rest.Kind = 0
	good := true
	field := func(n *int, low, high int) {
		good = good && in(*n, low, high)
		*n = 0
	}
	small := func(n *uint8, high uint8) {
		good = good && *n <= high
		*n = 0
	}
	receiver := func() { field(&rest.Receiver, 0, 63) }
	account := func() { field(&rest.Account, 0, 15) }
	from := func() { field(&rest.From, 0, 1<<40) }
	to := func() { field(&rest.To, 0, 1<<40) }
	switch d.Kind {
	case 1:
		small(&rest.Region, 255)
		small(&rest.Level, 3)
		field(&rest.Amount, 0, 1000)
		rest.View = false
	case 2:
		receiver()
		account()
		small(&rest.Region, 7)
		small(&rest.Level, 3)
	case 3:
		receiver()
		account()
	case 4:
		receiver()
	case 5:
		account()
		field(&rest.Item, 0, 7)
		from()
		to()
		good = good && d.From < d.To
	case 6, 8:
		account()
		field(&rest.Item, 0, 7)
		from()
	case 7:
		account()
		field(&rest.Amount, 1, 100000)
	case 9:
		account()
		field(&rest.Item, 0, 15)
		to()
		field(&rest.Amount, 1, 100)
	case 10:
		receiver()
		field(&rest.Item, 0, 15)
		from()
	case 11:
		receiver()
		field(&rest.Amount, 0, 8)
	case 12:
		receiver()
		from()
	default:
		return false
	}
	return good && rest == api.Deal{}
}

// carried follows the table's columns of what a valid deal does, and of its errors.
func carried(b api.Books, d api.Deal) (api.Books, api.Errno) {
	n := cloneBooks(b)
	switch d.Kind {
	case 1:
		if len(b.Products) >= 8 {
			return b, 9
		}
		n.Products = append(n.Products, api.Product{Regions: d.Region, Level: d.Level, Price: d.Amount, View: d.View})
	case 5:
		if d.Item >= len(b.Products) {
			return b, 6
		}
		if b.Products[d.Item].View {
			return b, 2
		}
		if len(b.Grants) >= 64 {
			return b, 9
		}
		n.Grants = append(n.Grants, api.Grant{Account: d.Account, Product: d.Item, From: d.From, To: d.To})
	case 6:
		return stopped(b, d)
	case 7:
		if n.Credits[d.Account] += d.Amount; n.Credits[d.Account] > 100000 {
			return b, 62
		}
	case 8:
		return bought(b, d)
	case 9:
		if len(b.Licences) >= 64 {
			return b, 9
		}
		n.Licences = append(n.Licences, api.Licence{Account: d.Account, Title: d.Item, Until: d.To, Plays: d.Amount})
	default:
		return carriedOnCard(b, d)
	}
	return n, 0
}

// carriedOnCard is carried for the kinds that name a card.
func carriedOnCard(b api.Books, d api.Deal) (api.Books, api.Errno) {
	n := cloneBooks(b)
	var card *api.Card
	for i := range n.Cards {
		if n.Cards[i].Receiver == d.Receiver {
			card = &n.Cards[i]
		}
	}
	if d.Kind == 2 {
		if card != nil {
			return b, 61
		}
		n.Cards = append(n.Cards, api.Card{Receiver: d.Receiver, Account: d.Account, Region: d.Region, Level: d.Level})
		return n, 0
	}
	if card == nil {
		return b, 6
	}
	if card.Dead {
		return b, 60
	}
	switch d.Kind {
	case 3:
		card.Account, card.Home, card.Met = d.Account, 0, 0
	case 4:
		card.Dead, card.Home, card.Met = true, 0, 0
	case 10:
		for i, l := range n.Licences {
			if l.Account == card.Account && l.Title == d.Item && l.Until > d.From && l.Plays > 0 {
				n.Licences[i].Plays--
				return n, 0
			}
		}
		return b, 6
	case 11:
		others := 0
		for _, c := range b.Cards {
			if d.Amount != 0 && c.Home == d.Amount && c.Receiver != d.Receiver {
				if others++; c.Account != card.Account {
					return b, 63
				}
			}
		}
		if others >= 4 {
			return b, 63
		}
		card.Home, card.Met = d.Amount, 0
	case 12:
		if card.Home == 0 {
			return b, 63
		}
		card.Met = max(card.Met, d.From+1)
	}
	return n, 0
}

func stopped(b api.Books, d api.Deal) (api.Books, api.Errno) {
	n := cloneBooks(b)
	n.Grants = nil
	for _, g := range b.Grants {
		if g.Account == d.Account && g.Product == d.Item {
			if g.From >= d.From {
				continue
			}
			if g.To > d.From {
				g.To = d.From
			}
		}
		n.Grants = append(n.Grants, g)
	}
	if isSameBooks(b, n) {
		return b, 6
	}
	return n, 0
}

func bought(b api.Books, d api.Deal) (api.Books, api.Errno) {
	n := cloneBooks(b)
	if d.Item >= len(b.Products) {
		return b, 6
	}
	if !b.Products[d.Item].View {
		return b, 2
	}
	for _, s := range b.Sales {
		if s.Account == d.Account && s.Product == d.Item && s.Epoch == d.From {
			return b, 61
		}
	}
	if len(b.Sales) >= 64 {
		return b, 9
	}
	price := b.Products[d.Item].Price
	if n.Credits[d.Account] -= price; n.Credits[d.Account] < 0 {
		return b, 62
	}
	n.Sales = append(n.Sales, api.Sale{Account: d.Account, Product: d.Item, Epoch: d.From, Price: price})
	return n, 0
}

// mayWatch follows the definition of an entitled receiver.
func mayWatch(b api.Books, u, product, epoch int) bool {
	mains := map[int]int{}
	for i := len(b.Cards) - 1; i >= 0; i-- {
		mains[b.Cards[i].Home] = b.Cards[i].Receiver
	}
	p := b.Products[product]
	for _, c := range b.Cards {
		if c.Receiver != u || c.Dead || p.Regions&(1<<c.Region) == 0 || c.Level < p.Level {
			continue
		}
		if c.Home != 0 && mains[c.Home] != u && (c.Met == 0 || epoch > c.Met-1+3) {
			continue
		}
		for _, g := range b.Grants {
			if g.Account == c.Account && g.Product == product && g.From <= epoch && epoch < g.To {
				return true
			}
		}
		for _, s := range b.Sales {
			if s.Account == c.Account && s.Product == product && s.Epoch == epoch {
				return true
			}
		}
	}
	return false
}

func flag(is bool) byte {
	if is {
		return 1
	}
	return 0
}

func wide(b []byte, n int) []byte { return binary.BigEndian.AppendUint64(b, uint64(n)) }

func amount(b []byte, n int) []byte { return binary.BigEndian.AppendUint32(b, uint32(n)) }

func price(b []byte, n int) []byte { return binary.BigEndian.AppendUint16(b, uint16(n)) }

// dealBytes returns the bytes of a deal.
func dealBytes(d api.Deal) []byte {
	b := []byte{d.Kind, byte(d.Receiver), byte(d.Account), byte(d.Item)}
	b = amount(wide(wide(b, d.From), d.To), d.Amount)
	return append(b, d.Region, d.Level, flag(d.View))
}

// booksBytes returns the bytes of books.
func booksBytes(b api.Books) []byte {
	x := []byte{byte(len(b.Products))}
	for _, p := range b.Products {
		x = append(price(append(x, p.Regions, p.Level), p.Price), flag(p.View))
	}
	x = append(x, byte(len(b.Cards)))
	for _, c := range b.Cards {
		x = append(x, byte(c.Receiver), byte(c.Account), c.Region, c.Level, byte(c.Home))
		x = append(wide(x, c.Met), flag(c.Dead))
	}
	x = append(x, byte(len(b.Grants)))
	for _, g := range b.Grants {
		x = wide(wide(append(x, byte(g.Account), byte(g.Product)), g.From), g.To)
	}
	x = append(x, byte(len(b.Sales)))
	for _, s := range b.Sales {
		x = price(wide(append(x, byte(s.Account), byte(s.Product)), s.Epoch), s.Price)
	}
	x = append(x, byte(len(b.Licences)))
	for _, l := range b.Licences {
		x = append(wide(append(x, byte(l.Account), byte(l.Title)), l.Until), byte(l.Plays))
	}
	for _, n := range b.Credits {
		x = amount(x, n)
	}
	return x
}

func hash(b []byte) []byte {
	k, e := cipher.Hash(b)
	if e != api.OK {
		panic(e)
	}
	return k[:]
}

func snapshotBytes(b api.Books, generation int) []byte {
	books := booksBytes(b)
	x := append(amount(wide(nil, generation), len(books)), books...)
	return append(x, hash(x)...)
}

// journalBytes returns the journal of some valid deals.
func journalBytes(generation int, l ...api.Deal) []byte {
	x := wide(nil, generation)
	mark := hash(x)
	for _, d := range l {
		b := dealBytes(d)
		mark = hash(append(slices.Clone(mark), b...))
		x = append(append(x, b...), mark...)
	}
	return x
}

func safeFile(b []byte) api.File { return api.File{Bytes: b, Safe: len(b)} }

// officeOf returns a valid office that has some books, without records.
func officeOf(b api.Books, count int) api.Office {
	return api.Office{Books: b, Count: count, Log: safeFile(journalBytes(count))}
}

// do returns an office after deals that have no errors.
func do(t *testing.T, o api.Office, l ...api.Deal) api.Office {
	t.Helper()
	for _, d := range l {
		o = must[api.Office](t)(rights.Do(o, d))
	}
	return o
}

// apply returns books after deals that have no errors.
func apply(t *testing.T, b api.Books, l ...api.Deal) api.Books {
	t.Helper()
	for _, d := range l {
		b = must[api.Books](t)(rights.Apply(b, d))
	}
	return b
}
