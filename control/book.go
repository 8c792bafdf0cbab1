package control

import (
	"cmp"
	"slices"

	"holloway/api"
	"holloway/checks"
	"holloway/lists"
	"holloway/node"
	"holloway/orders"
	"holloway/posture"
	"holloway/values"
)

// copyBook is a book in memory of its own.
func copyBook(b api.Book) api.Book {
	b.Setting, b.Steps = values.CopySetting(b.Setting), lists.Map(b.Steps, values.CopyStep)
	b.Claims, b.Askings, b.Health = slices.Clone(b.Claims), slices.Clone(b.Askings), slices.Clone(b.Health)
	return b
}

// Merge is one book for two.
func Merge(a, b api.Book) (api.Book, api.Errno) {
	if e := cmp.Or(CheckBook(a), CheckBook(b)); e != api.OK {
		return api.Book{}, e
	}
	setting := checks.Need(values.SameSetting(a.Setting, b.Setting), api.ErrConflict)
	steps, inSteps := node.Merge(a.Steps, b.Steps)
	claims, inClaims := posture.Merge(a.Claims, b.Claims)
	askings, inAskings := lists.Merge(a.Askings, b.Askings, api.MaxAskings, orders.Askings)
	health, inHealth := lists.Merge(a.Health, b.Health, api.MaxHealth, orders.Health)
	if e := cmp.Or(setting, inSteps, inClaims, inAskings, inHealth); e != api.OK {
		return api.Book{}, e
	}
	return api.Book{Setting: values.CopySetting(a.Setting), Steps: steps, Claims: claims, Askings: askings, Health: health}, api.OK
}
