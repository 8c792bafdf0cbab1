package control

import (
	"cmp"
	"slices"

	"holloway/api"
	"holloway/node"
	"holloway/posture"
)

// Audit are the steps and askings that are refused.
func Audit(b api.Book) ([]api.Note, api.Errno) {
	if e := CheckBook(b); e != api.OK {
		return nil, e
	}
	steps, _ := node.Refused(b.Setting.Directory, b.Steps)
	askings, _ := posture.Refused(b.Setting.Access, b.Askings)
	var out []api.Note
	for _, r := range steps {
		s := b.Steps[r.Step]
		out = append(out, api.Note{At: s.At, Kind: api.NoteStep, Number: r.Step, By: s.By, Why: r.Why})
	}
	for _, r := range askings {
		x := b.Askings[r.Step]
		out = append(out, api.Note{At: x.At, Kind: api.NoteAsking, Number: r.Step, By: x.By, Why: r.Why})
	}
	slices.SortFunc(out, func(x, y api.Note) int {
		return cmp.Or(cmp.Compare(x.At, y.At), cmp.Compare(x.Kind, y.Kind), cmp.Compare(x.Number, y.Number))
	})
	return out, api.OK
}
