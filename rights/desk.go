package rights

import (
	"slices"

	"headend/api"
)

// maxDeals is how many deals are replayed at once.
const maxDeals = 1000

// desk is the books at work, which deals change where they are.
type desk struct{ api.Books }

// Apply returns the books after a deal is carried out.
func Apply(b api.Books, d api.Deal) (api.Books, api.Errno) {
	if e := Check(b); e != api.OK {
		return api.Books{}, e
	}
	w := desk{copyOf(b)}
	if e := w.carryOut(d); e != api.OK {
		return api.Books{}, e
	}
	return w.Books, api.OK
}

// Replay returns the books after some deals, and how many had no error.
func Replay(b api.Books, l []api.Deal) (api.Books, int, api.Errno) {
	if e := Check(b); e != api.OK {
		return api.Books{}, 0, e
	}
	if len(l) > maxDeals {
		return api.Books{}, 0, api.ErrMany
	}
	w, done := desk{copyOf(b)}, 0
	for _, d := range l {
		if w.carryOut(d) == api.OK {
			done++
		}
	}
	return w.Books, done, api.OK
}

// carryOut carries out a deal, or changes nothing if it has an error.
func (w *desk) carryOut(d api.Deal) api.Errno {
	if e := CheckDeal(d); e != api.OK {
		return e
	}
	does := map[uint8]func(w *desk, d api.Deal) api.Errno{
		api.DealProduct: (*desk).product,
		api.DealIssue:   (*desk).issue,
		api.DealMove:    (*desk).move,
		api.DealKill:    (*desk).kill,
		api.DealGrant:   (*desk).grant,
		api.DealStop:    (*desk).stop,
		api.DealFill:    (*desk).fill,
		api.DealBuy:     (*desk).buy,
		api.DealLend:    (*desk).lend,
		api.DealPlay:    (*desk).play,
		api.DealHome:    (*desk).home,
		api.DealMeet:    (*desk).meet,
	}
	return does[d.Kind](w, d)
}

func (w *desk) product(d api.Deal) api.Errno {
	if len(w.Products) == api.MaxProducts {
		return api.ErrFull
	}
	w.Products = append(w.Products, api.Product{Regions: d.Region, Level: d.Level, Price: d.Amount, View: d.View})
	return api.OK
}

func (w *desk) issue(d api.Deal) api.Errno {
	if indexOf(w.Cards, d.Receiver) >= 0 {
		return api.ErrTwice
	}
	w.Cards = append(w.Cards, api.Card{Receiver: d.Receiver, Account: d.Account, Region: d.Region, Level: d.Level})
	return api.OK
}

// indexOf returns the index of the card of a receiver, or -1.
func indexOf(l []api.Card, receiver int) int {
	return slices.IndexFunc(l, func(c api.Card) bool { return c.Receiver == receiver })
}

// living returns the place of a receiver's card that is not dead.
func (w *desk) living(receiver int) (*api.Card, api.Errno) {
	i := indexOf(w.Cards, receiver)
	switch {
	case i < 0:
		return nil, api.ErrNone
	case w.Cards[i].Dead:
		return nil, api.ErrDead
	}
	return &w.Cards[i], api.OK
}

func (w *desk) move(d api.Deal) api.Errno {
	c, e := w.living(d.Receiver)
	if e == api.OK {
		c.Account, c.Home, c.Met = d.Account, 0, 0
	}
	return e
}

func (w *desk) kill(d api.Deal) api.Errno {
	c, e := w.living(d.Receiver)
	if e == api.OK {
		c.Dead, c.Home, c.Met = true, 0, 0
	}
	return e
}

// checkProduct returns ErrNone if there is no such product, and ErrArg if it is not of the kind that is needed.
func (w *desk) checkProduct(n int, view bool) api.Errno {
	switch {
	case n >= len(w.Products):
		return api.ErrNone
	case w.Products[n].View != view:
		return api.ErrArg
	}
	return api.OK
}

func (w *desk) grant(d api.Deal) api.Errno {
	if e := w.checkProduct(d.Item, false); e != api.OK {
		return e
	}
	if len(w.Grants) == api.MaxGrants {
		return api.ErrFull
	}
	w.Grants = append(w.Grants, api.Grant{Account: d.Account, Product: d.Item, From: d.From, To: d.To})
	return api.OK
}

func (w *desk) stop(d api.Deal) api.Errno {
	// A grant that begins later ends later as well: so these are all that are changed or removed.
	endsLater := func(g api.Grant) bool {
		return g.Account == d.Account && g.Product == d.Item && g.To > d.From
	}
	if !slices.ContainsFunc(w.Grants, endsLater) {
		return api.ErrNone
	}
	w.Grants = filter(w.Grants, func(g api.Grant) bool { return !endsLater(g) || g.From < d.From })
	for i, g := range w.Grants {
		if endsLater(g) {
			w.Grants[i].To = d.From
		}
	}
	return api.OK
}

func (w *desk) fill(d api.Deal) api.Errno {
	if w.Credits[d.Account]+d.Amount > api.MaxCredits {
		return api.ErrCredits
	}
	w.Credits[d.Account] += d.Amount
	return api.OK
}

func (w *desk) buy(d api.Deal) api.Errno {
	if e := w.checkProduct(d.Item, true); e != api.OK {
		return e
	}
	price := w.Products[d.Item].Price
	switch {
	case isSold(w.Sales, d.Account, d.Item, d.From):
		return api.ErrTwice
	case len(w.Sales) == api.MaxSales:
		return api.ErrFull
	case w.Credits[d.Account] < price:
		return api.ErrCredits
	}
	w.Credits[d.Account] -= price
	w.Sales = append(w.Sales, api.Sale{Account: d.Account, Product: d.Item, Epoch: d.From, Price: price})
	return api.OK
}

func (w *desk) lend(d api.Deal) api.Errno {
	if len(w.Licences) == api.MaxLicences {
		return api.ErrFull
	}
	w.Licences = append(w.Licences, api.Licence{Account: d.Account, Title: d.Item, Until: d.To, Plays: d.Amount})
	return api.OK
}

func (w *desk) play(d api.Deal) api.Errno {
	c, e := w.living(d.Receiver)
	if e != api.OK {
		return e
	}
	i := slices.IndexFunc(w.Licences, func(l api.Licence) bool {
		return l.Account == c.Account && l.Title == d.Item && l.Until > d.From && l.Plays > 0
	})
	if i < 0 {
		return api.ErrNone
	}
	w.Licences[i].Plays--
	return api.OK
}

func (w *desk) home(d api.Deal) api.Errno {
	c, e := w.living(d.Receiver)
	if e != api.OK {
		return e
	}
	others := filter(cardsAt(w.Cards, d.Amount), func(o api.Card) bool { return o.Receiver != d.Receiver })
	isOurs := func(o api.Card) bool { return o.Account == c.Account }
	if d.Amount != 0 && !isList(others, api.MaxHome-1, isOurs) {
		return api.ErrHome
	}
	c.Home, c.Met = d.Amount, 0
	return api.OK
}

func (w *desk) meet(d api.Deal) api.Errno {
	c, e := w.living(d.Receiver)
	switch {
	case e != api.OK:
		return e
	case c.Home == 0:
		return api.ErrHome
	}
	c.Met = max(c.Met, d.From+1)
	return api.OK
}
