package steps

import (
	"fmt"
	"math"
	"slices"
	"strings"
	"testing"

	"holloway/api"
)

// lines are texts of steps, one for each kind and more, by their kinds.
var lines = []string{
	"key ann k web,www 100 3 yes",
	"key ann k - 0 0 no",
	"revoke ann k",
	"join ann n1 - 0a laptop",
	"join - n1 k 0a laptop",
	"join - n1 - 0a laptop",
	"approve ann n1",
	"renew ann n1 0b",
	"name ann n1 pc",
	"tag ann n1 web",
	"tag ann n1 -",
	"expire ann n1",
	"gone ann n1",
}

// P2.7, P10.5: what is read is written again, and is right with a moment, a server and a number.
func TestReadAndText(t *testing.T) {
	table := Columns()
	var kinds []int
	for _, line := range lines {
		s, ok := table.Read(strings.Split(line, " "))
		if !ok || s.At != 0 || s.Server != "" || s.No != 0 {
			t.Fatalf("%s: %+v, %v", line, s, ok)
		}
		s.At, s.Server, s.No = 5, "s1", 1
		if got := table.Text(&s); got != line || table.Check(&s) != api.OK {
			t.Errorf("%s: %s, %v", line, got, table.Check(&s))
		}
		kinds = append(kinds, s.Kind)
	}
	want := []int{api.StepKey, api.StepRevoke, api.StepJoin, api.StepApprove, api.StepRenew, api.StepName, api.StepTag, api.StepExpire, api.StepGone}
	if got := slices.Compact(kinds); !slices.Equal(got, want) {
		t.Errorf("kinds %v, not %v", got, want)
	}
}

// P2.7, P10.5
func TestReadOther(t *testing.T) {
	table := Columns()
	others := []string{"", " ", "joins ann n1 - 0a laptop", "joi ann n1 - 0a laptop", "-", " ann n1", "Join ann n1 - 0a laptop", "5 s1 1 join ann n1 - 0a laptop", "key ann k web, 100 3 yes", "key ann k ,web 100 3 yes", "key ann k web 0100 3 yes", "key ann k web 1234567890 3 yes", "key ann k web x 3 yes", "key ann k web 100 3 Yes", "key ann k web 100 3 -"}
	for _, line := range lines {
		words := strings.Split(line, " ")
		others = append(others, line+" x", line+" ", " "+line, strings.Replace(line, " ", "  ", 1), strings.Join(words[:len(words)-1], " "))
	}
	for _, line := range others {
		if s, ok := table.Read(strings.Split(line, " ")); ok {
			t.Errorf("%q: %+v", line, s)
		}
	}
	if s, ok := table.Read(nil); ok {
		t.Errorf("%+v", s)
	}
	for _, c := range []struct {
		line string
		e    api.Errno
	}{
		{"join Ann n1 - 0a laptop", api.ErrName},
		{"join ann - - 0a laptop", api.ErrName},
		{"join ann n1 - 0g laptop", api.ErrName},
		{"key ann k b,a 1 1 no", api.ErrOrder},
		{"key ann k " + strings.Repeat("a,", 10) + "a 1 1 no", api.ErrLarge},
		{"key ann k - -1 1 no", api.ErrArg},
	} {
		s, ok := table.Read(strings.Split(c.line, " "))
		s.Server, s.No = "s", 1
		if e := table.Check(&s); !ok || e != c.e {
			t.Errorf("%s: %v, %v", c.line, ok, e)
		}
	}
}

// P2.2
func TestCheck(t *testing.T) {
	table := Columns()
	right := api.Step{At: 5, Server: "s", No: 1, Kind: api.StepName, By: "ann", Node: "n1", Name: "pc"}
	for i, c := range []struct {
		do func(s *api.Step)
		e  api.Errno
	}{
		{func(*api.Step) {}, api.OK},
		{func(s *api.Step) { s.At = api.End - 1 }, api.OK},
		{func(s *api.Step) { s.No = 1_000_000 }, api.OK},
		{func(s *api.Step) { s.At, s.Server = -1, "" }, api.ErrArg},
		{func(s *api.Step) { s.At, s.Server = api.End, "" }, api.ErrArg},
		{func(s *api.Step) { s.Server, s.No = "S", 0 }, api.ErrName},
		{func(s *api.Step) { s.No, s.Kind = 0, 0 }, api.ErrArg},
		{func(s *api.Step) { s.No, s.Kind = 1_000_001, 0 }, api.ErrArg},
		{func(s *api.Step) { s.Kind, s.By = 0, "" }, api.ErrKind},
		{func(s *api.Step) { s.Kind, s.By = 10, "" }, api.ErrKind},
		{func(s *api.Step) { s.Kind, s.By = math.MinInt, "" }, api.ErrKind},
		{func(s *api.Step) { s.Name, s.Join = "", "k" }, api.ErrName},
		{func(s *api.Step) { s.Join = "k" }, api.ErrForm},
		{func(s *api.Step) { s.Ready = true }, api.ErrForm},
	} {
		s := right
		c.do(&s)
		if e := table.Check(&s); e != c.e {
			t.Errorf("%d: %v, not %v: %s", i, e, c.e, fmt.Sprint(s))
		}
	}
}

// P2.2
func TestIsPublic(t *testing.T) {
	for s, want := range map[string]bool{"0": true, "0123456789abcdef": true, strings.Repeat("f", api.MaxPublic): true, "": false, "g": false, "A": false, " 0": false, strings.Repeat("f", api.MaxPublic+1): false} {
		if IsPublic(s) != want {
			t.Errorf("%q", s)
		}
	}
}
