// Package orders has the orders of lists that several chapters keep.
package orders

import (
	"cmp"
	"strings"

	"holloway/api"
)

// Steps orders steps by their moments, of equal ones by who has written them down, as which number.
func Steps(x, y api.Step) int {
	return cmp.Or(cmp.Compare(x.At, y.At), strings.Compare(x.Server, y.Server), cmp.Compare(x.No, y.No))
}

// Health orders what is told of health by its moments, then by its nodes.
func Health(x, y api.Health) int {
	return cmp.Or(cmp.Compare(x.At, y.At), strings.Compare(x.Node, y.Node))
}

// Claims orders claims by their moments, then by their nodes and names.
func Claims(x, y api.Claim) int {
	return cmp.Or(cmp.Compare(x.At, y.At), strings.Compare(x.Node, y.Node), strings.Compare(x.Name, y.Name))
}

// Askings orders askings by their moments, then by the keys of their requests, then by who says them.
func Askings(x, y api.Asking) int {
	return cmp.Or(cmp.Compare(x.At, y.At), strings.Compare(x.Key, y.Key), strings.Compare(x.By, y.By))
}

// Facts orders facts by their nodes, then by their postures.
func Facts(x, y api.Fact) int {
	return cmp.Or(strings.Compare(x.Node, y.Node), strings.Compare(x.Posture, y.Posture))
}
