// Package rights is layer 6: who may see what, deals that change the books, and offices whose books survive crashes. See shared/doc/06-rights.md.
package rights

import (
	"slices"

	"headend/api"
)

func isWithin(n, low, high int) bool { return n >= low && n <= high }

func isAccount(n int) bool { return isWithin(n, 0, api.MaxAccounts-1) }

func isReceiver(n int) bool { return isWithin(n, 0, api.MaxReceiver-1) }

func isHome(n int) bool { return isWithin(n, 1, api.MaxHomes) }

func isTitle(n int) bool { return isWithin(n, 0, api.MaxTitles-1) }

func isEpoch(n int) bool { return isWithin(n, 0, api.MaxTick) }

func isPrice(n int) bool { return isWithin(n, 0, api.MaxPrice) }

// filter returns a new list of what is wanted of a list, in its order.
func filter[T any](l []T, isWanted func(x T) bool) []T {
	var wanted []T
	for _, x := range l {
		if isWanted(x) {
			wanted = append(wanted, x)
		}
	}
	return wanted
}

// isList reports whether a list is not too long, and all in it is right.
func isList[T any](l []T, most int, isRight func(x T) bool) bool {
	return len(l) <= most && !slices.ContainsFunc(l, func(x T) bool { return !isRight(x) })
}

// Check returns ErrBad unless the books are valid.
func Check(b api.Books) api.Errno {
	if areProducts(b) && areCards(b) && areGrants(b) && areSales(b) && areLicences(b) && areCredits(b) {
		return api.OK
	}
	return api.ErrBad
}

func areProducts(b api.Books) bool {
	return isList(b.Products, api.MaxProducts, func(p api.Product) bool {
		return p.Level <= api.MaxLevel && isPrice(p.Price)
	})
}

func areCards(b api.Books) bool {
	if !isList(b.Cards, api.MaxReceiver, isCard) {
		return false
	}
	return isList(b.Cards, api.MaxReceiver, func(c api.Card) bool { return isAmong(c, b.Cards) })
}

// isCard reports whether a card is right for itself.
func isCard(c api.Card) bool {
	if !isReceiver(c.Receiver) || !isAccount(c.Account) || c.Region >= api.MaxRegions || c.Level > api.MaxLevel {
		return false
	}
	if c.Home == 0 || c.Dead {
		return c.Home == 0 && c.Met == 0
	}
	return isHome(c.Home) && isWithin(c.Met, 0, api.MaxTick+1)
}

// isAmong reports whether a card is right among all cards.
func isAmong(c api.Card, l []api.Card) bool {
	same := filter(l, func(o api.Card) bool { return o.Receiver == c.Receiver })
	if len(same) > 1 || c.Home == 0 {
		return len(same) <= 1
	}
	return isList(cardsAt(l, c.Home), api.MaxHome, func(o api.Card) bool { return o.Account == c.Account })
}

// cardsAt returns the cards of a home.
func cardsAt(l []api.Card, home int) []api.Card {
	return filter(l, func(c api.Card) bool { return c.Home == home })
}

// isProduct reports whether the books have a product that is View, or not.
func isProduct(b api.Books, n int, view bool) bool {
	return isWithin(n, 0, len(b.Products)-1) && b.Products[n].View == view
}

func areGrants(b api.Books) bool {
	return isList(b.Grants, api.MaxGrants, func(g api.Grant) bool {
		return isAccount(g.Account) && isProduct(b, g.Product, false) && g.From >= 0 && g.From < g.To && g.To <= api.MaxTick
	})
}

// isSale reports whether a sale is that of a product in an epoch to an account.
func isSale(s api.Sale, account, product, epoch int) bool {
	return s.Account == account && s.Product == product && s.Epoch == epoch
}

func areSales(b api.Books) bool {
	return isList(b.Sales, api.MaxSales, func(s api.Sale) bool {
		same := filter(b.Sales, func(o api.Sale) bool { return isSale(o, s.Account, s.Product, s.Epoch) })
		return len(same) == 1 && isAccount(s.Account) && isProduct(b, s.Product, true) && isEpoch(s.Epoch) && isPrice(s.Price)
	})
}

func areLicences(b api.Books) bool {
	return isList(b.Licences, api.MaxLicences, func(l api.Licence) bool {
		return isAccount(l.Account) && isTitle(l.Title) && isEpoch(l.Until) && isWithin(l.Plays, 0, api.MaxPlays)
	})
}

func areCredits(b api.Books) bool {
	return isList(b.Credits[:], api.MaxAccounts, func(n int) bool { return isWithin(n, 0, api.MaxCredits) })
}

// Same reports whether all fields of two books are the same.
func Same(a, b api.Books) bool {
	return slices.Equal(a.Products, b.Products) && slices.Equal(a.Cards, b.Cards) && slices.Equal(a.Grants, b.Grants) &&
		slices.Equal(a.Sales, b.Sales) && slices.Equal(a.Licences, b.Licences) && a.Credits == b.Credits
}

// copyOf returns books that share no memory with some books.
func copyOf(b api.Books) api.Books {
	b.Products, b.Cards = slices.Clone(b.Products), slices.Clone(b.Cards)
	b.Grants, b.Sales, b.Licences = slices.Clone(b.Grants), slices.Clone(b.Sales), slices.Clone(b.Licences)
	return b
}
