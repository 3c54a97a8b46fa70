package image_test

import (
	"slices"
	"testing"

	"justiciar/api"
	"justiciar/image"
)

func number(n int) api.Value { return api.Value{Kind: api.VInt, N: n} }

func text(s string) api.Value { return api.Value{Kind: api.VText, Text: s} }

func cols() []api.Column {
	return []api.Column{{Name: "a", Type: api.VInt}, {Name: "b", Type: api.VText}}
}

func some() (api.Catalog, api.Image) {
	c := api.Catalog{Objects: []api.Object{
		{Owner: "u", Name: "t", Kind: api.OTable, Table: []api.Table{{Cols: cols()}}},
		{Owner: "u", Name: "v", Kind: api.OView},
		{Owner: "w", Name: "t", Kind: api.OTable, Table: []api.Table{{Cols: cols()}}},
	}}
	m := api.Image{Time: 1, Tables: []api.Stored{
		{Owner: "u", Name: "t", Rows: []api.Held{{Id: 1, Row: api.Row{number(1)}}, {Id: 3}}, Next: 4},
		{Owner: "w", Name: "t", Rows: []api.Held{{Id: 2, Row: api.Row{{}, text("x")}}}, Next: 3},
	}}
	return c, m
}

// TestValid: all that P8.1 says of images is tested in package choose.
func TestValid(t *testing.T) {
	for name, x := range map[string]struct {
		change func(m *api.Image)
		want   bool
	}{
		"as it is":           {func(m *api.Image) {}, true},
		"nothing":            {func(m *api.Image) { *m = api.Image{} }, true},
		"a time below 0":     {func(m *api.Image) { m.Time = -1 }, false},
		"tables that fall":   {func(m *api.Image) { slices.Reverse(m.Tables) }, false},
		"a view":             {func(m *api.Image) { m.Tables = []api.Stored{{Owner: "u", Name: "v", Next: 1}} }, false},
		"no such table":      {func(m *api.Image) { m.Tables[1].Owner = "x" }, false},
		"rows that fall":     {func(m *api.Image) { slices.Reverse(m.Tables[0].Rows) }, false},
		"next is in use":     {func(m *api.Image) { m.Tables[0].Next = 3 }, false},
		"a row that is none": {func(m *api.Image) { m.Tables[0].Rows[0].Row = api.Row{text("x")} }, false},
	} {
		c, m := some()
		x.change(&m)
		if got := image.Valid(&c, &m); got != x.want {
			t.Errorf("%s: %v", name, got)
		}
	}
}

func TestFits(t *testing.T) {
	for _, x := range []struct {
		r    api.Row
		want bool
	}{
		{nil, true}, {api.Row{number(1)}, true}, {api.Row{number(1), text("x")}, true}, {api.Row{{}, {}}, true}, {api.Row{{}, text("")}, true},
		{api.Row{text("x")}, false}, {api.Row{number(1), number(1)}, false}, {api.Row{{Kind: api.VBool}}, false}, {api.Row{{}, {}, {}}, false},
		{api.Row{number(api.MaxInt + 1)}, false}, {api.Row{{N: 1}}, false}, {api.Row{{}, text("\n")}, false}, {make(api.Row, 21), false},
	} {
		if got := image.Fits(x.r, cols()); got != x.want {
			t.Errorf("%v: %v", x.r, got)
		}
	}
}

func TestRows(t *testing.T) {
	_, m := some()
	for key, want := range map[[2]string]int{{"u", "t"}: 2, {"w", "t"}: 1, {"u", "v"}: 0, {"t", "u"}: 0, {"", ""}: 0} {
		if l := image.Rows(&m, key); len(l) != want {
			t.Errorf("%v: %v", key, l)
		}
	}
	if l := image.Rows(&m, [2]string{"u", "t"}); &l[0] != &m.Tables[0].Rows[0] {
		t.Error("not the rows themselves")
	}
}
