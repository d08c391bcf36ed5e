package rights

import (
	"slices"

	"headend/api"
)

// Main returns the receiver of the main card of a home.
func Main(b api.Books, home int) (int, api.Errno) {
	if e := Check(b); e != api.OK {
		return 0, e
	}
	if !isHome(home) {
		return 0, api.ErrArg
	}
	l := cardsAt(b.Cards, home)
	if len(l) == 0 {
		return 0, api.ErrNone
	}
	return l[0].Receiver, api.OK
}

// checkAsking returns the errors that Entitled and Revoked share; other tells whether their other argument is right.
func checkAsking(b api.Books, product, epoch int, other bool) api.Errno {
	if e := Check(b); e != api.OK {
		return e
	}
	switch {
	case !other || !isEpoch(epoch):
		return api.ErrArg
	case !isWithin(product, 0, len(b.Products)-1):
		return api.ErrNone
	}
	return api.OK
}

// Entitled reports whether a receiver is entitled to a product in an epoch.
func Entitled(b api.Books, receiver, product, epoch int) (bool, api.Errno) {
	if e := checkAsking(b, product, epoch, isReceiver(receiver)); e != api.OK {
		return false, e
	}
	return isEntitled(b, receiver, product, epoch), api.OK
}

// Revoked returns the receivers that are not entitled to a product in an epoch.
func Revoked(b api.Books, product, epoch, depth int) ([]int, api.Errno) {
	if e := checkAsking(b, product, epoch, isWithin(depth, 0, api.MaxDepth)); e != api.OK {
		return nil, e
	}
	var revoked []int
	for u := range 1 << depth {
		if !isEntitled(b, u, product, epoch) {
			revoked = append(revoked, u)
		}
	}
	return revoked, api.OK
}

func isEntitled(b api.Books, receiver, product, epoch int) bool {
	i := indexOf(b.Cards, receiver)
	if i < 0 || b.Cards[i].Dead {
		return false
	}
	c, p := b.Cards[i], b.Products[product]
	return p.Regions>>c.Region&1 == 1 && c.Level >= p.Level && isPaid(b, c.Account, product, epoch) && isNear(b, c, epoch)
}

// isPaid reports whether an account has a grant or a sale of a product for an epoch. Valid books have no grant of a product that is View, and no sale of another one.
func isPaid(b api.Books, account, product, epoch int) bool {
	isGranted := slices.ContainsFunc(b.Grants, func(g api.Grant) bool {
		return g.Account == account && g.Product == product && g.From <= epoch && epoch < g.To
	})
	return isGranted || isSold(b.Sales, account, product, epoch)
}

func isSold(l []api.Sale, account, product, epoch int) bool {
	return slices.ContainsFunc(l, func(s api.Sale) bool { return isSale(s, account, product, epoch) })
}

// isNear reports whether a card has no home, is its main card, or met it lately.
func isNear(b api.Books, c api.Card, epoch int) bool {
	if c.Home == 0 || cardsAt(b.Cards, c.Home)[0] == c {
		return true
	}
	return c.Met > 0 && epoch <= c.Met-1+api.MaxNear
}
