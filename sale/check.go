package sale

import "sale/api"

// Check tells whether a configuration is right (P3).
func Check(c api.Config) api.Errno {
	numbers := []int{c.Stock, c.Cap, c.Queue, c.Lease, c.Wait, c.Keep, c.Tokens}
	if !areNumbers(numbers) {
		return api.ErrConfig
	}
	if !arePrices(c.Prices) {
		return api.ErrConfig
	}
	return api.OK
}

// areNumbers tells whether all of a list are from 1 to MaxNumber.
func areNumbers(list []int) bool {
	for i := 0; i < len(list); i++ {
		if list[i] < 1 || list[i] > api.MaxNumber {
			return false
		}
	}
	return true
}

func arePrices(tiers []api.Tier) bool {
	if len(tiers) < 1 || len(tiers) > api.MaxTiers {
		return false
	}
	if tiers[0].From != 0 {
		return false
	}
	for i := 0; i < len(tiers); i++ {
		if tiers[i].Cents < 1 || tiers[i].Cents > api.MaxCents {
			return false
		}
		if tiers[i].From > api.MaxNumber {
			return false
		}
		if i > 0 && tiers[i].From <= tiers[i-1].From {
			return false
		}
	}
	return true
}
