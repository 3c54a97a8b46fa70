package choose_test

import (
	"slices"
	"strings"
	"testing"

	"justiciar/api"
	"justiciar/choose"
)

// TestIsImage: P8.1.
func TestIsImage(t *testing.T) {
	c := world(t)
	full := func(n int) []api.Held {
		var l []api.Held
		for i := range n {
			l = append(l, api.Held{Id: i + 1})
		}
		return l
	}
	row := func(l ...api.Value) func(m *api.Image) {
		return func(m *api.Image) { m.Tables[0].Rows = []api.Held{{Id: 1, Row: l}} }
	}
	for name, x := range map[string]struct {
		change func(m *api.Image)
		want   bool
	}{
		"as it is":             {func(m *api.Image) {}, true},
		"nothing":              {func(m *api.Image) { *m = api.Image{} }, true},
		"time 0":               {func(m *api.Image) { m.Time = 0 }, true},
		"the last time":        {func(m *api.Image) { m.Time = api.MaxInt }, true},
		"time below 0":         {func(m *api.Image) { m.Time = -1 }, false},
		"time beyond the last": {func(m *api.Image) { m.Time = api.MaxInt + 1 }, false},
		"one table":            {func(m *api.Image) { m.Tables = m.Tables[1:] }, true},
		"all tables": {func(m *api.Image) {
			m.Tables = slices.Insert(m.Tables, 0, api.Stored{Owner: "u", Name: "empty", Next: 1})
		}, true},
		"tables that do not rise": {func(m *api.Image) { slices.Reverse(m.Tables) }, false},
		"names that do not rise": {func(m *api.Image) {
			m.Tables = slices.Insert(m.Tables, 1, api.Stored{Owner: "u", Name: "empty", Next: 1})
		}, false},
		"a table twice":                {func(m *api.Image) { m.Tables = slices.Insert(m.Tables, 1, m.Tables[0]) }, false},
		"no such owner":                {func(m *api.Image) { m.Tables[1].Owner = "x" }, false},
		"no such table":                {func(m *api.Image) { m.Tables[1].Name = "empty" }, false},
		"a table without a name":       {func(m *api.Image) { m.Tables[0].Name = "" }, false},
		"a view":                       {func(m *api.Image) { m.Tables[0] = api.Stored{Owner: "u", Name: "v", Next: 1} }, false},
		"an index":                     {func(m *api.Image) { m.Tables[0] = api.Stored{Owner: "u", Name: "m", Next: 1} }, false},
		"a sequence":                   {func(m *api.Image) { m.Tables[0] = api.Stored{Owner: "u", Name: "seq", Next: 1} }, false},
		"a program":                    {func(m *api.Image) { m.Tables[0] = api.Stored{Owner: "u", Name: "p", Next: 1} }, false},
		"no rows":                      {func(m *api.Image) { m.Tables[0].Rows, m.Tables[0].Next = nil, 1 }, true},
		"no rows, a late next":         {func(m *api.Image) { m.Tables[0].Rows, m.Tables[0].Next = nil, api.MaxInt }, true},
		"no rows, next 0":              {func(m *api.Image) { m.Tables[0].Rows, m.Tables[0].Next = nil, 0 }, false},
		"next beyond the last":         {func(m *api.Image) { m.Tables[0].Next = api.MaxInt + 1 }, false},
		"the last id":                  {func(m *api.Image) { m.Tables[0].Rows[6].Id, m.Tables[0].Next = api.MaxInt-1, api.MaxInt }, true},
		"next behind the last":         {func(m *api.Image) { m.Tables[0].Next = 14 }, true},
		"next is the last id":          {func(m *api.Image) { m.Tables[0].Next = 13 }, false},
		"next before the last":         {func(m *api.Image) { m.Tables[1].Next = 5 }, false},
		"id 0":                         {func(m *api.Image) { m.Tables[0].Rows[0].Id = 0 }, false},
		"id below 0":                   {func(m *api.Image) { m.Tables[0].Rows[0].Id = -1 }, false},
		"an id twice":                  {func(m *api.Image) { m.Tables[0].Rows[1].Id = 1 }, false},
		"ids that do not rise":         {func(m *api.Image) { m.Tables[0].Rows[1].Id = 12 }, false},
		"as many rows as can be":       {func(m *api.Image) { m.Tables[0].Rows, m.Tables[0].Next = full(api.MaxRows), api.MaxRows+1 }, true},
		"one row more":                 {func(m *api.Image) { m.Tables[0].Rows, m.Tables[0].Next = full(api.MaxRows+1), api.MaxRows+2 }, false},
		"a row without values":         {row(), true},
		"nulls":                        {row(api.Value{}, api.Value{}, api.Value{}, api.Value{}), true},
		"a value of each kind":         {row(number(-api.MaxInt), text(strings.Repeat("~", api.MaxText)), truth(0), number(api.MaxInt)), true},
		"a value more than columns":    {row(api.Value{}, api.Value{}, api.Value{}, api.Value{}, api.Value{}), false},
		"more values than can be":      {row(make([]api.Value, api.MaxCols+1)...), false},
		"a string for an int":          {row(text("1")), false},
		"a bool for an int":            {row(truth(1)), false},
		"an int for a string":          {row(api.Value{}, number(1)), false},
		"an int for a bool":            {row(api.Value{}, api.Value{}, number(1)), false},
		"a string for the last column": {row(api.Value{}, api.Value{}, api.Value{}, text("")), false},
		"an int beyond the range":      {row(number(api.MaxInt + 1)), false},
		"a string that is too long":    {row(api.Value{}, text(strings.Repeat("a", api.MaxText+1))), false},
		"a bool that is none":          {row(api.Value{}, api.Value{}, truth(2)), false},
		"a null with a number":         {row(api.Value{N: 1}), false},
		"a value of no kind":           {row(api.Value{Kind: 4}), false},
		"the fault in the last table":  {func(m *api.Image) { m.Tables[1].Rows[1].Row[0] = text("") }, false},
		"the fault in the last row":    {func(m *api.Image) { m.Tables[0].Rows[6].Row = api.Row{text("")} }, false},
	} {
		m := image()
		x.change(&m)
		was := encoded(m)
		if got := choose.IsImage(c, m); got != x.want || encoded(m) != was {
			t.Errorf("%s: %v", name, got)
		}
		_, code := choose.Best(c, "u", nil, queryOf(t, "select * from t"), m)
		if (code == api.OK) != x.want || code != api.OK && code != api.ErrArg {
			t.Errorf("%s: Best returns error %d", name, code)
		}
	}
}

// TestIsImageOfCatalog: of a catalog that is not valid no image is.
func TestIsImageOfCatalog(t *testing.T) {
	for _, spoil := range []func(c *api.Catalog){
		func(c *api.Catalog) { c.Stamp = -1 },
		func(c *api.Catalog) { slices.Reverse(c.Objects) },
		func(c *api.Catalog) { c.Users = nil },
		func(c *api.Catalog) { c.Objects = []api.Object{{Owner: "u", Name: "t", Kind: api.OTable}} },
	} {
		c := world(t)
		spoil(&c)
		if choose.IsImage(c, api.Image{}) || choose.IsImage(c, image()) {
			t.Error(c.Stamp, c.Users)
		}
	}
	if !choose.IsImage(api.Catalog{}, api.Image{}) || choose.IsImage(api.Catalog{}, image()) {
		t.Error("a catalog with nothing")
	}
}
